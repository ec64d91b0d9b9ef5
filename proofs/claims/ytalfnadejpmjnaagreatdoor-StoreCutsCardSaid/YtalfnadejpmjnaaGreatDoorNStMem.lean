/- A part. -/
import Derived.Test.YtalfnadejpmjnaaGreatDoorNOdE
set_option linter.unusedVariables false
set_option linter.unusedSimpArgs false
set_option maxRecDepth 100000
set_option maxHeartbeats 25600000
namespace Go.Proofs.YtalfnadejpmjnaaGreatDoor
section
open Go.RowKit
theorem Chg.jn {S:Nat→Prop}{w w':World}(h:Chg S w w'):Jn.Chg S w w':=⟨h.os,h.tape,h.output,h.size,h.block⟩
theorem Jn.Chg.out {S:Nat→Prop}{w w':World}(h:Jn.Chg S w w'):Go.Proofs.YtalfnadejpmjnaaGreatDoor.Chg S w w':=⟨h.os,h.tape,h.output,h.size,h.block⟩
structure Ct where
 seq:Int
 first:Int
 before:Int
 count:Int
def Ct.cells (c:Ct):List Value:=[.int .i64 c.seq,.int .i64 c.first,.int .i64 c.before,.int .i64 c.count]
abbrev StT:TypeId:=78
abbrev CtT:TypeId:=52
def StC (q B:Nat)(cv:Value)(rel:Int)(brk:Bool):List Value:=[.pointer (some ⟨q,0,none⟩),.pointer (some ⟨B,0,none⟩),cv,.int .i64 rel,.bool brk]
abbrev Rws:=List (Nat×TypeId×List Value)
structure StAt (w0 W:World)(p q B g:Nat)(S:Nat→Prop)(v dv cv:Value)(l:List Jn.Fl)(r:Int)(j:Jn.Jr.J)(rs:List Rp)(cs:List Ct)(C:List Value)(rows:Rws):Prop where
 jn:Jn.JS W w0.heap.size S g q l r j
 lg:LogAt W w0.heap.size B v dv rs
 ct:OwnL W w0.heap.size CtT 4 Ct.cells cv cs
 row:Row W p StT C
 low:Below w0.heap.size w0 W
 pb:w0.heap.size≤p
 qb:w0.heap.size≤q
 ap :∀k,S k→¬LS B v dv k∧k≠p∧cv.ownBlock≠some k
 rw :∀x∈rows,Row W x.1 x.2.1 x.2.2∧¬S x.1∧x.1≠q∧¬LS B v dv x.1∧x.1≠p∧cv.ownBlock≠some x.1∧w0.heap.size≤x.1
section
variable {w0 W W' : World} {p q B g : Nat} {S : Nat → Prop} {v dv cv : Value} {l l' : List Jn.Fl} {r r' : Int} {j j' : Jn.Jr.J} {rs rs' : List Rp} {cs cs' : List Ct} {C C' : List Value} {rows rows' : Rws}
theorem StAt.q_ls (h:StAt w0 W p q B g S v dv cv l r j rs cs C rows) :¬LS B v dv q:=by
 rintro(e|e|e)
 · exact ybz h.jn.row h.lg.row (by decide) e
 · exact h.lg.own.ne_block h.jn.row (by decide) e
 · exact h.lg.dow.ne_block h.jn.row (by decide) e
theorem StAt.p_ls (h:StAt w0 W p q B g S v dv cv l r j rs cs C rows) :¬LS B v dv p:=by
 rintro(e|e|e)
 · exact ybz h.row h.lg.row (by decide) e
 · exact h.lg.own.ne_block h.row (by decide) e
 · exact h.lg.dow.ne_block h.row (by decide) e
theorem StAt.c_ls (h:StAt w0 W p q B g S v dv cv l r j rs cs C rows) :∀k,cv.ownBlock=some k→¬LS B v dv k:=by
 rintro k hk (e|e|e)
 · subst e;exact h.ct.ne_block h.lg.row (by decide) hk
 · exact h.ct.ne_own h.lg.own (by decide) k hk e
 · exact h.ct.ne_own h.lg.dow (by decide) k hk e
theorem StAt.c_q (h:StAt w0 W p q B g S v dv cv l r j rs cs C rows):cv.ownBlock≠some q:=h.ct.ne_block h.jn.row (by decide)
theorem StAt.c_p (h:StAt w0 W p q B g S v dv cv l r j rs cs C rows):cv.ownBlock≠some p:=h.ct.ne_block h.row (by decide)
theorem StAt.p_q (h:StAt w0 W p q B g S v dv cv l r j rs cs C rows):p≠q:=ybz h.row h.jn.row (by decide)
theorem StAt.s_lt (h:StAt w0 W p q B g S v dv cv l r j rs cs C rows) :∀k,S k→w0.heap.size≤k∧k<W.heap.size:=h.jn.disk.1
theorem StAt.chg {T:Nat→Prop}(h:StAt w0 W p q B g S v dv cv l r j rs cs C rows)(hc:Chg T W W')(h0 :∀k,T k→w0.heap.size≤k)(h1 :∀k,T k→¬S k∧k≠q∧¬LS B v dv k∧cv.ownBlock≠some k∧k≠p)(h2 :∀x∈rows',Row W' x.1 x.2.1 x.2.2∧¬S x.1∧x.1≠q∧¬LS B v dv x.1∧x.1≠p∧cv.ownBlock≠some x.1∧w0.heap.size≤x.1):StAt w0 W' p q B g S v dv cv l r j rs cs C rows':=
 ⟨⟨h.jn.disk.kept hc.jn (fun k hk ht=>(h1 k ht).1 hk),hc.row h.jn.row (fun t=>(h1 _ t).2.1 rfl),h.jn.out⟩,h.lg.chg hc (fun k hk t=>(h1 k t).2.2.1 hk),h.ct.chg hc (fun k hk t=>(h1 k t).2.2.2.1 hk),hc.row h.row (fun t=>(h1 _ t).2.2.2.2 rfl),ybt h.low hc h.low.size h0,h.pb,h.qb,h.ap,h2⟩
theorem StAt.below (h:StAt w0 W p q B g S v dv cv l r j rs cs C rows)(hb:Below W.heap.size W W'):StAt w0 W' p q B g S v dv cv l r j rs cs C rows:=
 h.chg (T:=fun _=>False) (Chg.ya6 hb) (fun _ q=>q.elim) (fun _ q=>q.elim) (fun x hx=>⟨(h.rw x hx).1.below hb,(h.rw x hx).2⟩)
theorem StAt.less (h:StAt w0 W p q B g S v dv cv l r j rs cs C rows)(hs :∀x∈rows',x∈rows):StAt w0 W p q B g S v dv cv l r j rs cs C rows':=
 ⟨h.jn,h.lg,h.ct,h.row,h.low,h.pb,h.qb,h.ap,fun x hx=>h.rw x (hs x hx)⟩
theorem StAt.brow (h:StAt w0 W p q B g S v dv cv l r j rs cs C rows){gx:Nat}{T:TypeId}{X:List Value}(hx:(gx,T,X)∈rows):Row W gx T X:=(h.rw _ hx).1
theorem StAt.fresh (h:StAt w0 W p q B g S v dv cv l r j rs cs C rows) :∀x∈rows,x.1≠W.heap.size:=by
 intro x hx e
 have:=(h.rw x hx).1.lt
 omega
theorem StAt.own_lt (h:StAt w0 W p q B g S v dv cv l r j rs cs C rows) :∀k,(S k∨k=q∨LS B v dv k∨k=p∨cv.ownBlock=some k)→k<W.heap.size:=by
 rintro k (e|e|e|e|e)
 · exact(h.s_lt k e).2
 · subst e;exact Row.lt h.jn.row
 · exact(h.lg.lt k e).2
 · subst e;exact h.row.lt
 · exact(h.ct.lt k e).2
theorem StAt.alloc (h:StAt w0 W p q B g S v dv cv l r j rs cs C rows)(T:TypeId)(X:List Value):StAt w0 (W.alloc (.cells X.toArray T)) p q B g S v dv cv l r j rs cs C ((W.heap.size,T,X)::rows):=by
 have hb:Below W.heap.size W (W.alloc (.cells X.toArray T)):=(Below.refl W.heap.size W).alloc (Nat.le_refl _) _
 have h2:=h.below hb
 have ho:=h.own_lt
 refine⟨h2.jn,h2.lg,h2.ct,h2.row,h2.low,h2.pb,h2.qb,h2.ap,fun x hx=>?_⟩
 rcases List.mem_cons.1 hx with rfl|hx
 · exact⟨Row.new W T X,fun q=>Nat.lt_irrefl _ (ho _ (.inl q)),fun q=>Nat.lt_irrefl _ (ho _ (.inr (.inl q))),fun q=>Nat.lt_irrefl _ (ho _ (.inr (.inr (.inl q)))),fun q=>Nat.lt_irrefl _ (ho _ (.inr (.inr (.inr (.inl q))))),fun q=>Nat.lt_irrefl _ (ho _ (.inr (.inr (.inr (.inr q))))),h.low.size⟩
 · exact h2.rw x hx
theorem StAt.write {gx:Nat}{T:TypeId}{X0 X:List Value}(h:StAt w0 W p q B g S v dv cv l r j rs cs C ((gx,T,X0)::rows))(hg:W.grownBy W' (some gx))(hr:Row W' gx T X)(hne :∀x∈rows,x.1≠gx):StAt w0 W' p q B g S v dv cv l r j rs cs C ((gx,T,X)::rows):=by
 obtain⟨r1,r2,r3,r4,r5,r6,r7⟩:=h.rw _ List.mem_cons_self
 have hc:Chg (fun k=>k=gx) W W':=Chg.yat hg (fun k hk=>by cases hk;exact .inl rfl)
 refine h.chg hc (fun k hk=>by rw[hk];exact r7) (fun k hk=>by rw[hk];exact⟨r2,r3,r4,r6,r5⟩) (fun x hx=>?_)
 rcases List.mem_cons.1 hx with rfl|hx
 · exact⟨hr,r2,r3,r4,r5,r6,r7⟩
 · obtain⟨q1,q2⟩:=h.rw x (List.mem_cons_of_mem _ hx)
   exact⟨q1.kept hg (fun e=>hne x hx (Option.some.inj e)),q2⟩
theorem StAt.box {T:TypeId}{X Z:List Value}(h:StAt w0 W p q B g S v dv cv l r j rs cs C rows)(hg:(W.alloc (.cells Z.toArray T)).grownBy W' (some W.heap.size))(hr:Row W' W.heap.size T X):StAt w0 W' p q B g S v dv cv l r j rs cs C ((W.heap.size,T,X)::rows):=
 (h.alloc T Z).write hg hr h.fresh
theorem StAt.set (h:StAt w0 W p q B g S v dv cv l r j rs cs C rows)(hg:W.grownBy W' (some p))(hr:Row W' p StT C'):StAt w0 W' p q B g S v dv cv l r j rs cs C' rows:=by
 have hc:Chg (fun k=>k=p) W W':=Chg.yat hg (fun k hk=>by cases hk;exact .inl rfl)
 exact⟨⟨h.jn.disk.kept hc.jn (fun k hk e=>(h.ap k hk).2.1 e),hc.row h.jn.row (fun e=>h.p_q e.symm),h.jn.out⟩,h.lg.chg hc (fun k hk e=>h.p_ls (e ▸ hk)),h.ct.chg hc (fun k hk e=>h.c_p (e ▸ hk)),hr,ybt h.low hc h.low.size (fun k e=>by rw[e];exact h.pb),h.pb,h.qb,h.ap,fun x hx=>⟨hc.row (h.rw x hx).1 (fun e=>(h.rw x hx).2.2.2.2.1 e),(h.rw x hx).2⟩⟩
theorem StAt.log (h:StAt w0 W p q B g S v dv cv l r j rs cs C rows)(hl:LTo W W' w0.heap.size B v dv rs') :∃v' dv',StAt w0 W' p q B g S v' dv' cv l r j rs' cs C rows:=by
 obtain⟨v',dv',q1,q2,q3⟩:=hl
 refine⟨v',dv',⟨h.jn.disk.kept q2.jn (fun k hk=>(h.ap k hk).1),q2.row h.jn.row h.q_ls,h.jn.out⟩,q1,h.ct.chg q2 h.c_ls,q2.row h.row h.p_ls,ybt h.low q2 h.low.size (fun k hk=>(h.lg.lt k hk).1),h.pb,h.qb,fun k hk=>⟨fun q=>?_,(h.ap k hk).2⟩,fun x hx=>?_⟩
 · rcases q3 k q with e|e
   · exact(h.ap k hk).1 e
   · have:=(h.s_lt k hk).2
     omega
 · obtain⟨r1,r2,r3,r4,r5,r6,r7⟩:=h.rw x hx
   refine⟨q2.row r1 r4,r2,r3,fun q=>?_,r5,r6,r7⟩
   rcases q3 _ q with e|e
   · exact r4 e
   · have:=r1.lt
     omega
theorem StAt.jrn (h:StAt w0 W p q B g S v dv cv l r j rs cs C rows)(hj:Jn.JTo W W' w0.heap.size S g q l' r' j') :∃S',StAt w0 W' p q B g S' v dv cv l' r' j' rs cs C rows:=by
 obtain⟨S',k1,k2,k3⟩:=hj
 have hc:=k3.out
 have hl:=h.own_lt
 refine⟨S',k1,h.lg.chg hc (fun k hk e=>?_),h.ct.chg hc (fun k hk e=>?_),hc.row h.row (fun e=>?_),ybt h.low hc h.low.size (fun k e=>?_),h.pb,h.qb,fun k hk=>?_,fun x hx=>?_⟩
 · rcases e with e|e
   · exact(h.ap k e).1 hk
   · exact h.q_ls (e ▸ hk)
 · rcases e with e|e
   · exact(h.ap k e).2.2 hk
   · exact h.c_q (e ▸ hk)
 · rcases e with e|e
   · exact(h.ap _ e).2.1 rfl
   · exact h.p_q e
 · rcases e with e|e
   · exact(h.s_lt k e).1
   · rw[e];exact h.qb
 · rcases k2 k hk with e|e
   · exact h.ap k e
   · exact⟨fun q=>by have:=hl k (.inr (.inr (.inl q)));omega,fun q=>by have:=hl k (.inr (.inr (.inr (.inl q))));omega,fun q=>by have:=hl k (.inr (.inr (.inr (.inr q))));omega⟩
 · obtain⟨r1,r2,r3,r4,r5,r6,r7⟩:=h.rw x hx
   refine⟨hc.row r1 (fun e=>by rcases e with e|e;exact r2 e;exact r3 e),fun e=>?_,r3,r4,r5,r6,r7⟩
   rcases k2 _ e with e|e
   · exact r2 e
   · have:=r1.lt
     omega
theorem StAt.cuts {cv':Value}(h:StAt w0 W p q B g S v dv cv l r j rs cs C rows)(ho:OwnL W' w0.heap.size CtT 4 Ct.cells cv' cs')(hc:Chg (fun k=>cv.ownBlock=some k) W W')(hk :∀k,cv'.ownBlock=some k→cv.ownBlock=some k∨W.heap.size≤k):StAt w0 W' p q B g S v dv cv' l r j rs cs' C rows:=by
 refine⟨⟨h.jn.disk.kept hc.jn (fun k hk e=>(h.ap k hk).2.2 e),hc.row h.jn.row h.c_q,h.jn.out⟩,h.lg.chg hc (fun k hk e=>h.c_ls k e hk),ho,hc.row h.row h.c_p,ybt h.low hc h.low.size (fun k e=>(h.ct.lt k e).1),h.pb,h.qb,fun k hs=>⟨(h.ap k hs).1,(h.ap k hs).2.1,fun e=>?_⟩,fun x hx=>?_⟩
 · rcases hk k e with e|e
   · exact(h.ap k hs).2.2 e
   · have:=(h.s_lt k hs).2
     omega
 · obtain⟨r1,r2,r3,r4,r5,r6,r7⟩:=h.rw x hx
   refine⟨hc.row r1 r6,r2,r3,r4,r5,fun e=>?_,r7⟩
   rcases hk _ e with e|e
   · exact r6 e
   · have:=r1.lt
     omega
end
def St (w0 W:World)(p g:Nat)(l:List Jn.Fl)(r:Int)(j:Jn.Jr.J)(rs:List Rp)(cs:List Ct)(rel:Int)(brk:Bool)(rows:Rws):Prop:=
 ∃q B S v dv cv,StAt w0 W p q B g S v dv cv l r j rs cs (StC q B cv rel brk) rows
section
variable {w0 W W' : World} {p g : Nat} {l : List Jn.Fl} {r : Int} {j : Jn.Jr.J} {rs : List Rp} {cs : List Ct} {rel : Int} {brk : Bool} {rows rows' : Rws}
theorem St.low (h:St w0 W p g l r j rs cs rel brk rows):Below w0.heap.size w0 W:=by
 obtain⟨q,B,S,v,dv,cv,h⟩:=h
 exact h.low
theorem St.below (h:St w0 W p g l r j rs cs rel brk rows)(hb:Below W.heap.size W W'):St w0 W' p g l r j rs cs rel brk rows:=by
 obtain⟨q,B,S,v,dv,cv,h⟩:=h
 exact⟨q,B,S,v,dv,cv,h.below hb⟩
theorem St.less (h:St w0 W p g l r j rs cs rel brk rows)(hs :∀x∈rows',x∈rows):St w0 W p g l r j rs cs rel brk rows':=by
 obtain⟨q,B,S,v,dv,cv,h⟩:=h
 exact⟨q,B,S,v,dv,cv,h.less hs⟩
theorem St.brow (h:St w0 W p g l r j rs cs rel brk rows){gx:Nat}{T:TypeId}{X:List Value}(hx:(gx,T,X)∈rows):Row W gx T X:=by
 obtain⟨q,B,S,v,dv,cv,h⟩:=h
 exact h.brow hx
theorem St.fresh (h:St w0 W p g l r j rs cs rel brk rows) :∀x∈rows,x.1≠W.heap.size:=by
 obtain⟨q,B,S,v,dv,cv,h⟩:=h
 exact h.fresh
theorem St.alloc (h:St w0 W p g l r j rs cs rel brk rows)(T:TypeId)(X:List Value):St w0 (W.alloc (.cells X.toArray T)) p g l r j rs cs rel brk ((W.heap.size,T,X)::rows):=by
 obtain⟨q,B,S,v,dv,cv,h⟩:=h
 exact⟨q,B,S,v,dv,cv,h.alloc T X⟩
theorem St.write {gx:Nat}{T:TypeId}{X0 X:List Value}(h:St w0 W p g l r j rs cs rel brk ((gx,T,X0)::rows))(hg:W.grownBy W' (some gx))(hr:Row W' gx T X)(hne :∀x∈rows,x.1≠gx):St w0 W' p g l r j rs cs rel brk ((gx,T,X)::rows):=by
 obtain⟨q,B,S,v,dv,cv,h⟩:=h
 exact⟨q,B,S,v,dv,cv,h.write hg hr hne⟩
theorem St.box {T:TypeId}{X Z:List Value}(h:St w0 W p g l r j rs cs rel brk rows)(hg:(W.alloc (.cells Z.toArray T)).grownBy W' (some W.heap.size))(hr:Row W' W.heap.size T X):St w0 W' p g l r j rs cs rel brk ((W.heap.size,T,X)::rows):=
 (h.alloc T Z).write hg hr h.fresh
end
end
section
open Go.RowKit
theorem ycf {P:Program}{ops:Array Oper}{rest:List Oper}{op:Oper}{a:Act}{w:World}{Q:Exit→Act→World→Prop}(hgd:op.guard=none)(ty:TypeId)(x y:Operand)(ho:op.op=.store ty x y)
 (g i:Nat) (T:TypeId) (xs:List Value) (u:Value) (hu:u.cells=#[u]) (h1:u.oneCell'=true) (hx:a.eval x=.pointer (some ⟨g,i,none⟩)) (hy:a.eval y=u) (hg:Row w g T xs) (hi:i<xs.length) (hs:(P.info? ty).map (·.size)=some 1)
 (K :∀w',Row w' g T (xs.set i u)→w.grownBy w' (some g)→wpList P ops Q rest (a.put op.dst undef) w'):wpList P ops Q (op::rest) a w:=by
 refine wpList_plain hgd fun _ hK=>?_
 have hc:=hg.cell i hi
 have hf:=hg.free i
 have e:(storeVar ty ⟨g,i,none⟩ u).run P w=(storeVar ty ⟨g,i,none⟩ (.agg #[u])).run P w:=by
  simp only[storeVar,hu]
  simp[Value.cells]
 have hr:=run_storeVar_mid (P:=P) w g i ty #[u] (fun j hj=>by
  have:j=0:=by simp at hj;omega
  subst this
  exact⟨by rw[Nat.add_zero,hc];rfl,hf⟩) (by rw[hs];rfl) (all_oneCell_toArray (cs:=[u]) (fun v hv=>by simp only[List.mem_singleton]at hv;subst hv;exact h1))
 obtain⟨r1,r2⟩:=yb3 [u] i w xs hg (by simp;omega)
 unfold Oper.wp execOp
 simp only[ho,hx,hy,Instr.storeAt,Instr.sureAddr,Sem.run_bind,Sem.run_pure,Result.andThen_ok,e,hr]
 refine hK _ _ (K _ ?_ r2)
 have e2:xs.take i++([u]++xs.drop (i + [u].length))=xs.set i u:=by
  rw[List.set_eq_take_append_cons_drop,if_pos hi]
  rfl
 rw[←e2]
 exact r1
theorem ybo {P:Program}{op:Oper}{a:Act}{w:World}{K:Act→World→Prop}{Q:Exit→Act→World→Prop}(ty:TypeId)(x y:Operand)(ho:op.op=.store ty x y)
 (g i:Nat) (T:TypeId) (xs:List Value) (u:Value) (hu:u.cells=#[u]) (h1:u.oneCell'=true) (hx:a.eval x=.pointer (some ⟨g,i,none⟩)) (hy:a.eval y=u) (hg:Row w g T xs) (hi:i<xs.length) (hs:(P.info? ty).map (·.size)=some 1)
 (H :∀w',Row w' g T (xs.set i u)→w.grownBy w' (some g)→K (a.put op.dst undef) w'):op.wp P a w K Q:=by
 have hc:=hg.cell i hi
 have hf:=hg.free i
 have e:(storeVar ty ⟨g,i,none⟩ u).run P w=(storeVar ty ⟨g,i,none⟩ (.agg #[u])).run P w:=by
  simp only[storeVar,hu]
  simp[Value.cells]
 have hr:=run_storeVar_mid (P:=P) w g i ty #[u] (fun j hj=>by
  have:j=0:=by simp at hj;omega
  subst this
  exact⟨by rw[Nat.add_zero,hc];rfl,hf⟩) (by rw[hs];rfl) (all_oneCell_toArray (cs:=[u]) (fun v hv=>by simp only[List.mem_singleton]at hv;subst hv;exact h1))
 obtain⟨r1,r2⟩:=yb3 [u] i w xs hg (by simp;omega)
 unfold Oper.wp execOp
 simp only[ho,hx,hy,Instr.storeAt,Instr.sureAddr,Sem.run_bind,Sem.run_pure,Result.andThen_ok,e,hr]
 refine H _ ?_ r2
 have e2:xs.take i++([u]++xs.drop (i + [u].length))=xs.set i u:=by
  rw[List.set_eq_take_append_cons_drop,if_pos hi]
  rfl
 rw[←e2]
 exact r1
theorem yba:(Tryz.prog.info? 52).map (·.size)=some 4:=by kernel_rfl
def Ct.zero:Ct:=⟨0,0,0,0⟩
theorem yjb (W:World):(zeroValue 52).run Tryz.prog W=.ok (.agg Ct.zero.cells.toArray) W:=by kernel_rfl
theorem yhe:Tryz.prog.built 52 []=some Ct.zero.cells.toArray:=by kernel_rfl
theorem Ct.one (c:Ct) :∀u∈c.cells,u.oneCell'=true:=by
 intro u hu
 unfold Ct.cells at hu
 simp only[List.mem_cons,List.not_mem_nil,or_false]at hu
 rcases hu with rfl|rfl|rfl|rfl <;> rfl
theorem Ct.lens (l:List Ct) :∀c∈l,(Ct.cells c).length=4:=fun _ _=>rfl
section
variable {w0 W W' : World} {p q B g : Nat} {S : Nat → Prop} {v dv cv : Value} {l : List Jn.Fl} {r : Int} {j : Jn.Jr.J} {rs : List Rp} {cs : List Ct} {rel : Int} {brk : Bool} {rows : Rws}
theorem StAt.cells5 (h:StAt w0 W p q B g S v dv cv l r j rs cs (StC q B cv rel brk) rows):W.cell? ⟨p,0,none⟩=some (.pointer (some ⟨q,0,none⟩))∧W.cell? ⟨p,1,none⟩=some (.pointer (some ⟨B,0,none⟩))∧W.cell? ⟨p,2,none⟩=some cv∧W.cell? ⟨p,3,none⟩=some (.int .i64 rel)∧W.cell? ⟨p,4,none⟩=some (.bool brk):=
 ⟨h.row.cell 0 (by simp[StC]),h.row.cell 1 (by simp[StC]),h.row.cell 2 (by simp[StC]),h.row.cell 3 (by simp[StC]),h.row.cell 4 (by simp[StC])⟩
theorem StAt.wrong (h:StAt w0 W p q B g S v dv cv l r j rs cs (StC q B cv rel brk) rows):Calls Tryz.prog 51 #[.pointer (some ⟨p,0,none⟩)] W fun e w'=>e=.returned (.int .i64 (if brk=true then 8 else 0))∧W=w':=by
 obtain⟨c0,c1,c2,c3,c4⟩:=h.cells5
 clear h c0 c1 c2 c3
 cases brk
 · go_enter Tryz.func51,Tryz.ntmps51
   go_wp2_with fail
   go_ret
   exact⟨rfl,rfl⟩
 · go_enter Tryz.func51,Tryz.ntmps51
   go_wp2_with fail
   go_ret
   exact⟨rfl,rfl⟩
theorem StAt.did (h:StAt w0 W p q B g S v dv cv l r j rs cs (StC q B cv rel brk) rows)(e:Int):Calls Tryz.prog 64 #[.pointer (some ⟨p,0,none⟩),.int .i64 e] W fun r' w'=>r'=.returned (.int .i64 e)∧StAt w0 w' p q B g S v dv cv l r j rs cs (StC q B cv rel (e != 0)) rows:=by
 have HH:=yh h
 have HR:=yh h.row
 clear h
 obtain⟨b,hb⟩:=yx ((e != 0))
 rw[hb]
 go_enter Tryz.func64,Tryz.ntmps64
 go_wp2_with ((with_reducible show wpList _ _ _ (⟨_, .store 4 (.tmp 9) _, _, _, _, _⟩ :: _) _ _)
              refine ycf rfl 4 (.tmp 9) (.tmp 7) rfl p 4 StT _ (.bool b) rfl rfl rfl rfl HR.out (by simp[StC]) rfl ?_
              intro w1 hr hg
              have HS:=yh (HH.out.set hg hr)
              clear hr hg)
 go_ret
 exact⟨rfl,HS.out⟩
theorem StAt.released (h:StAt w0 W p q B g S v dv cv l r j rs cs (StC q B cv rel brk) rows):Calls Tryz.prog 17 #[.pointer (some ⟨p,0,none⟩)] W fun e w'=>e=.returned (.int .i64 rel)∧W=w':=by
 obtain⟨c0,c1,c2,c3,c4⟩:=h.cells5
 clear h c0 c1 c2 c4
 go_enter Tryz.func17,Tryz.ntmps17
 go_wp2_with fail
 go_ret
 exact⟨rfl,rfl⟩
end
end
section
open Go.RowKit
def CtsOk (cs:List Ct):Prop:=cs.length≤1000∧∀c∈cs,0≤c.first∧c.first≤1000∧0≤c.count∧c.count≤1000
def ctEnd (cs:List Ct):Int:=match cs.getLast? with
 | none=>0
 | some c=>c.first+c.count
theorem yjd {cs:List Ct}{n:Nat}(h:cs.length=n+1):ctEnd cs=(cs[n]'(by omega)).first+(cs[n]'(by omega)).count:=by
 have e:cs.getLast? = some (cs[n]'(by omega)):=by
  rw[List.getLast?_eq_getElem?,List.getElem?_eq_getElem (by omega)]
  congr 2
  omega
 unfold ctEnd
 rw[e]
theorem CtsOk.ctEnd {cs:List Ct}(h:CtsOk cs):0≤ctEnd cs∧ctEnd cs≤2000:=by
 match hn:cs.length with
 | 0=>rw[List.length_eq_zero_iff.1 hn];exact⟨by decide,by decide⟩
 | n+1=>
   rw[yjd hn]
   have:=h.2 _ (List.getElem_mem (show n<cs.length by omega))
   omega
def ctOpen (rs:List Rp)(cs:List Ct):Int:=(rs.length:Int)-ctEnd cs
def ctNext (rs:List Rp)(cs:List Ct)(n:Int):Ct×Int:=if n<1 then (Ct.zero,2) else if ctOpen rs cs<n then (Ct.zero,4) else (⟨cs.length,ctEnd cs,Od.taken rs (ctEnd cs),n⟩,0)
theorem StAt.cutEnd {w0 W:World}{p q B g:Nat}{S:Nat→Prop}{v dv cv:Value}{l:List Jn.Fl}{r:Int}{j:Jn.Jr.J}{rs:List Rp}{cs:List Ct}{rel:Int}{brk:Bool}{rows:Rws}(h:StAt w0 W p q B g S v dv cv l r j rs cs (StC q B cv rel brk) rows)(hc:CtsOk cs):Calls Tryz.prog 42 #[.pointer (some ⟨p,0,none⟩)] W fun e w'=>e=.returned (.int .i64 (ctEnd cs))∧Below W.heap.size W w':=by
 have hz:=yjb
 have HZ4:Hid (Ct.zero.cells.length=4):=yh rfl
 obtain⟨ZT,hZT⟩:=yx (Ct.zero.cells)
 rw[hZT]at hz HZ4
 clear hZT
 obtain⟨A,c,hcv,hc2,_⟩:=h.ct.form
 subst hcv
 obtain⟨c0,c1,c2,c3,c4⟩:=h.cells5
 match hn:cs.length with
 | 0=>
   have e:ctEnd cs=0:=by rw[List.length_eq_zero_iff.1 hn];rfl
   rw[hn]at c2
   rw[e]
   clear h hc e hn c0 c1 c3 c4
   go_enter Tryz.func42,Tryz.ntmps42
   go_wp2_with fail
   go_ret
   exact⟨rfl,Below.refl _ _⟩
 | m+1=>
   obtain⟨n,hnn⟩ :∃n,n=m+1:=⟨_,rfl⟩
   have hcn:cs.length=n:=by omega
   have hm1:=hc.1
   have hml:m<cs.length:=by omega
   have hb:=hc.2 _ (List.getElem_mem hml)
   rw[hcn]at c2 hc2
   have dn:decide ((n:Int)=0)=false:=decide_eq_false (by omega)
   have dnb:((n:Int) == 0)=false:=by simp;omega
   have dn':((n:Int)=0)=False:=by simp;omega
   have dn'':(n=0)=False:=by simp;omega
   have e1:IntKind.i64.wrap ((n:Int)-1)=(m:Int):=by rw[IntWalk.i64_in _ (by omega)];omega
   have hmn:(m:Int)<(n:Int):=by omega
   have hm0:(0:Int)≤(m:Int):=by omega
   have he:=yjd (n:=m) (by omega)
   obtain⟨g2,cc,hg2,_,hgl⟩:=h.ct.ne (by intro q;rw[q]at hml;simp at hml)
   injection hg2 with ga gb gc
   subst ga
   have HL:=yh (h.ct.at (Ct.lens cs))
   have HRg:Hid (∀W',Below W.heap.size W W'→W'.rangeAt g2 (m*4) cs[m].cells):=yh (fun W' hW k u hu=>(hW.cell (p:=⟨g2,m*4+k,none⟩) hgl).trans (HL.out m hml k u hu))
   have HRow:Hid (∀W',Below W.heap.size W W'→W'.cell? ⟨p,2,none⟩=some (.slice (some ⟨g2,0,none⟩) n c)):=yh (fun W' hW=>(hW.cell (p:=⟨p,2,none⟩) h.row.lt).trans c2)
   rw[he]
   have HBx:Hid (∀(W':World) gq,Row W' gq 52 cs[m].cells→W'.cell? ⟨gq,1,none⟩=some (.int .i64 cs[m].first)∧W'.cell? ⟨gq,3,none⟩=some (.int .i64 cs[m].count)):=yh (fun W' gq hr=>⟨hr.cell 1 (by simp[Ct.cells]),hr.cell 3 (by simp[Ct.cells])⟩)
   have HC4:Hid (cs[m].cells.length=4):=yh rfl
   have HC1:=yh (Ct.one cs[m])
   have e2:IntKind.i64.wrap (cs[m].first+cs[m].count)=cs[m].first+cs[m].count:=IntWalk.i64_in _ (by omega)
   obtain⟨CT,hCT⟩:=yx (cs[m].cells)
   rw[hCT]at HRg HBx HC4 HC1
   generalize cs[m].first=cf at *
   generalize cs[m].count=cn at *
   clear h hc hcn hn hnn hb HL he hCT gb gc c0 c1 c3 c4 hml hm1 hc2
   go_enter Tryz.func42,Tryz.ntmps42
   go_wp2_with fail
   have hHh:Below W.heap.size W W:=Below.refl _ _
   refine wp_region_held_drew (S:=fun w'=>Below W.heap.size W w') (by kernel_rfl) (hHh.drew) (fun gH=>?_)
   generalize W.drew=wq at *
   refine yg 0 (.pointer (some ⟨p,0,none⟩)) rfl gH ?_
   refine yg 1 (.pointer (some ⟨p,0,none⟩)) rfl gH ?_
   refine yg 2 (.pointer (some ⟨p,2,none⟩)) rfl gH ?_
   simp only[Act.put,Ya,Yb,Yc,Yd,Ye,Yf]
   refine yk 3 (.slice (some ⟨g2,0,none⟩) n c) rfl (fun w' hSw=>by have hq:=hSw;have hd:=HRow.out _ hq;go_simp) gH ?_
   refine yg 4 (.pointer (some ⟨p,0,none⟩)) rfl gH ?_
   refine yg 5 (.pointer (some ⟨p,0,none⟩)) rfl gH ?_
   simp only[Act.put,Ya,Yb,Yc,Yd,Ye,Yf]
   refine yg 6 (.pointer (some ⟨p,2,none⟩)) rfl gH ?_
   refine yk 7 (.slice (some ⟨g2,0,none⟩) n c) rfl (fun w' hSw=>by have hq:=hSw;have hd:=HRow.out _ hq;go_simp) gH ?_
   refine yg 8 (.int .i64 n) rfl gH ?_
   simp only[Act.put,Ya,Yb,Yc,Yd,Ye,Yf]
   refine yg 9 (.int .i64 m) rfl gH ?_
   refine yg 10 (.pointer (some ⟨g2,(m*4),none⟩)) rfl gH ?_
   refine' yl 11 _ rfl (yieldsIf_load_mid (by rfl) _ _ rfl g2 (m*4) rfl CT _ (fun w' hSw=>(HRg.out _ hSw)) Tryz.underlying52 rfl (by rw[yba,HC4.out])) gH ?_
   simp only[Act.put,Ya,Yb,Yc,Yd,Ye,Yf]
   refine yR 12 (by kernel_rfl) rfl (fun K1 hK1=>?_)
   try simp only[Act.put,Ya,Yb,Yc,Yd,Ye,Yf]
   go_simp
   have hd2:=(Below.refl wq.heap.size wq).alloc (Nat.le_refl _) (.cells ZT.toArray 52)
   have rA:Row (wq.alloc (.cells ZT.toArray 52)) wq.heap.size 52 ZT:=Row.new wq 52 ZT
   have rAs:W.heap.size≤wq.heap.size:=gH.size
   have eH:=yaa gH hd2
   generalize wq.alloc (.cells ZT.toArray 52)=wa1 at *
   obtain⟨gb3,gb3e⟩ :∃gb3,gb3=wq.heap.size:=⟨_,rfl⟩
   rw[←gb3e]at rA rAs ⊢
   refine hK1.out _ _ eH (fun gH=>?_)
   clear hK1 K1
   clear eH gb3e
   refine yR 13 (by kernel_rfl) rfl (fun K1 hK1=>?_)
   try simp only[Act.put,Ya,Yb,Yc,Yd,Ye,Yf]
   rw[if_pos (by rfl)]
   refine yar 52 (.tmp 3) (.tmp 21) rfl gb3 0 CT _ _ rfl rfl rA (by have:=HC4.out;have:=HZ4.out;omega) (by rw[yba,HC4.out]) HC1.out ?_
   intro ws4 hrS hgS
   rw[yad (HC4.out.trans HZ4.out.symm)]at hrS
   have HR15:=yh hrS
   have eH:=below_own gH hgS (fun k hk=>by cases hk;exact rAs)
   clear hrS hgS
   refine hK1.out _ _ eH (fun gH=>?_)
   clear hK1 K1
   clear eH
   refine wpAnyH_done (by kernel_rfl) ?_ _
   obtain⟨c11,c13⟩:=HBx.out _ _ HR15.out
   have HBf:=yh gH
   clear gH
   go_wp2_with fail
   go_ret
   exact⟨rfl,HBf.out⟩
theorem StAt.open1 {w0 W:World}{p q B g:Nat}{S:Nat→Prop}{v dv cv:Value}{l:List Jn.Fl}{r:Int}{j:Jn.Jr.J}{rs:List Rp}{cs:List Ct}{rel:Int}{brk:Bool}{rows:Rws}(h:StAt w0 W p q B g S v dv cv l r j rs cs (StC q B cv rel brk) rows)(hc:CtsOk cs):Calls Tryz.prog 18 #[.pointer (some ⟨p,0,none⟩)] W fun e w'=>e=.returned (.int .i64 (ctOpen rs cs))∧Below W.heap.size W w':=by
 obtain⟨c0,c1,c2,c3,c4⟩:=h.cells5
 have LN:=yh h.lg.lenC
 have CE:=yh (h.cutEnd hc)
 have hl:=h.lg.len
 have hE:=hc.ctEnd
 have e2:IntKind.i64.wrap ((rs.length:Int)-ctEnd cs)=(rs.length:Int)-ctEnd cs:=IntWalk.i64_in _ (by omega)
 unfold ctOpen
 generalize ctEnd cs=ce at *
 generalize rs.length=n at *
 clear h hc c0 c2 c3 c4 hl hE
 go_enter Tryz.func18,Tryz.ntmps18
 go_wp2_with fail
 refine LN.out.mono ?_
 rintro _ _ ⟨rfl,rfl⟩
 go_wp2_with fail
 refine CE.out.mono ?_
 rintro _ w1 ⟨rfl,hb⟩
 have HB:=yh hb
 clear hb
 go_wp2_with fail
 go_ret
 exact⟨rfl,HB.out⟩
theorem ykp (a b c d:Int):Tryz.prog.built 52 [(0,.int .i64 a),(1,.int .i64 b),(2,.int .i64 c),(3,.int .i64 d)]=some (Ct.cells ⟨a,b,c,d⟩).toArray:=by kernel_rfl
theorem StAt.nextCut {w0 W:World}{p q B g:Nat}{S:Nat→Prop}{v dv cv:Value}{l:List Jn.Fl}{r:Int}{j:Jn.Jr.J}{rs:List Rp}{cs:List Ct}{rel:Int}{brk:Bool}{rows:Rws}(h:StAt w0 W p q B g S v dv cv l r j rs cs (StC q B cv rel brk) rows)(hc:CtsOk cs)(nn:Int):Calls Tryz.prog 67 #[.pointer (some ⟨p,0,none⟩),.int .i64 nn] W fun e w'=>e=.returned (.tuple #[.agg (ctNext rs cs nn).1.cells.toArray,.int .i64 (ctNext rs cs nn).2])∧Below W.heap.size W w':=by
 unfold ctNext
 have hz:=yjb
 have HZ4:Hid (Ct.zero.cells.length=4):=yh rfl
 have HZ1:=yh (Ct.one Ct.zero)
 have HBt:Hid (Tryz.prog.built 52 []=some Ct.zero.cells.toArray):=yh yhe
 obtain⟨ZT,hZT⟩:=yx (Ct.zero.cells)
 rw[hZT]at hz HZ4 HZ1 HBt
 have HZT:=yh hZT
 clear hZT
 have hb0:=(Below.refl W.heap.size W).alloc (Nat.le_refl _) (.cells ZT.toArray 52)
 have HB0:=yh hb0
 have HR0:=yh (Row.new W 52 ZT)
 have HH:=yh h
 by_cases h1:nn<1
 · rw[if_pos h1]
   simp only
   rw[HZT.out]
   have d1:decide (nn<1)=true:=decide_eq_true h1
   clear h hb0 hc h1
   go_enter Tryz.func67,Tryz.ntmps67
   go_wp2_with (first
    | ((with_reducible show wpList _ _ _ (⟨_,.build 52 _,_,_,_,_⟩::_) _ _);refine yak rfl 52 [] rfl (some 9) rfl _ rfl ZT.toArray HBt.out ?_)
    | (
       with_reducible show wpList _ _ _ (⟨_,.store 52 (.tmp 4) _,_,_,_,_⟩::_) _ _
       refine yab rfl 52 (.tmp 4) (.tmp 9) rfl W.heap.size 0 ZT ZT _ rfl rfl (HR0.out) (by have:=HZ4.out;have:=HZ4.out;omega) (by rw[yba,HZ4.out]) HZ1.out ?_
       intro w9 hr hg
       rw[yad (HZ4.out.trans HZ4.out.symm)]at hr
       have HS9:=yh hr
       have HB9:=yh (below_own HB0.out hg (fun k hk=>by cases hk;exact Nat.le_refl _))
       clear hr hg))
   refine bodyPost_ret (yaj rfl _ _ W.heap.size 52 ZT _ rfl HS9.out Tryz.underlying52 rfl (by rw[yba];simp[HZ4.out]) _ rfl) rfl ⟨rfl,HB9.out⟩
 · rw[if_neg h1]
   have d1:decide (nn<1)=false:=decide_eq_false h1
   have OP:=yh ((h.below hb0).open1 hc)
   by_cases h2:ctOpen rs cs<nn
   · rw[if_pos h2]
     simp only
     rw[HZT.out]
     have d2:decide (ctOpen rs cs<nn)=true:=decide_eq_true h2
     have d2':decide (nn>ctOpen rs cs)=true:=decide_eq_true h2
     generalize ctOpen rs cs=co at *
     clear h hb0 hc h1 h2
     go_enter Tryz.func67,Tryz.ntmps67
     go_wp2_with fail
     refine OP.out.mono ?_
     rintro _ w1 ⟨rfl,hb1⟩
     have HB1:=yh (yaa HB0.out hb1)
     have HR1:=yh (HR0.out.below hb1)
     clear hb1 OP
     go_wp2_with (first
      | ((with_reducible show wpList _ _ _ (⟨_,.build 52 _,_,_,_,_⟩::_) _ _);refine yak rfl 52 [] rfl (some 14) rfl _ rfl ZT.toArray HBt.out ?_)
      | (
         with_reducible show wpList _ _ _ (⟨_,.store 52 (.tmp 4) _,_,_,_,_⟩::_) _ _
         refine yab rfl 52 (.tmp 4) (.tmp 14) rfl W.heap.size 0 ZT ZT _ rfl rfl (HR1.out) (by have:=HZ4.out;have:=HZ4.out;omega) (by rw[yba,HZ4.out]) HZ1.out ?_
         intro w9 hr hg
         rw[yad (HZ4.out.trans HZ4.out.symm)]at hr
         have HS9:=yh hr
         have HB9:=yh (below_own HB1.out hg (fun k hk=>by cases hk;exact Nat.le_refl _))
         clear hr hg))
     refine bodyPost_ret (yaj rfl _ _ W.heap.size 52 ZT _ rfl HS9.out Tryz.underlying52 rfl (by rw[yba];simp[HZ4.out]) _ rfl) rfl ⟨rfl,HB9.out⟩
   · rw[if_neg h2]
     have d2:decide (ctOpen rs cs<nn)=false:=decide_eq_false h2
     have d2':decide (nn>ctOpen rs cs)=false:=decide_eq_false h2
     have CE:Hid (∀W',Below W.heap.size W W'→Calls Tryz.prog 42 #[.pointer (some ⟨p,0,none⟩)] W' fun e w'=>e=.returned (.int .i64 (ctEnd cs))∧Below W'.heap.size W' w'):=yh (fun W' hW=>(HH.out.below hW).cutEnd hc)
     have TK:Hid (∀W',Below W.heap.size W W'→Calls Tryz.prog 43 #[.pointer (some ⟨B,0,none⟩),.int .i64 (ctEnd cs)] W' fun e w'=>e=.returned (.int .i64 (Od.taken rs (ctEnd cs)))∧Below W'.heap.size W' w'):=yh (fun W' hW=>(HH.out.below hW).lg.taken _)
     obtain⟨A,c,hcv,_,_⟩:=h.ct.form
     subst hcv
     have HRow:Hid (∀W',Below W.heap.size W W'→W'.cell? ⟨p,2,none⟩=some (.slice A cs.length c)∧W'.cell? ⟨p,1,none⟩=some (.pointer (some ⟨B,0,none⟩))):=yh (fun W' hW=>⟨(HH.out.below hW).cells5.2.2.1,(HH.out.below hW).cells5.2.1⟩)
     have HBu:=yh (ykp cs.length (ctEnd cs) (Od.taken rs (ctEnd cs)) nn)
     have HC4:Hid ((Ct.cells ⟨cs.length,ctEnd cs,Od.taken rs (ctEnd cs),nn⟩).length=4):=yh rfl
     have HC1:=yh (Ct.one ⟨cs.length,ctEnd cs,Od.taken rs (ctEnd cs),nn⟩)
     simp only
     obtain⟨CR,hCR⟩:=yx (Ct.cells ⟨cs.length,ctEnd cs,Od.taken rs (ctEnd cs),nn⟩)
     rw[hCR]at HBu HC4 HC1 ⊢
     generalize ctOpen rs cs=co at *
     generalize (Od.taken rs (ctEnd cs):Int)=tk at *
     generalize ctEnd cs=ce at *
     generalize cs.length=n at *
     clear h hb0 hc h1 h2 hCR
     go_enter Tryz.func67,Tryz.ntmps67
     go_wp2_with fail
     refine OP.out.mono ?_
     rintro _ w1 ⟨rfl,hb1⟩
     have HB1:=yh (yaa HB0.out hb1)
     have HR1:=yh (HR0.out.below hb1)
     clear hb1 OP
     go_wp2_with fail
     refine(CE.out _ HB1.out).mono ?_
     rintro _ w2 ⟨rfl,hb2⟩
     have HB2:=yh (yaa HB1.out hb2)
     have HRw:=yh ((HR1.out.below hb2).below (Below.refl _ _).drew)
     clear hb2 CE
     go_wp2_with fail
     refine wp_region_held_drew (S:=fun w'=>Below W.heap.size W w') (by kernel_rfl) (HB2.out.drew) (fun gH=>?_)
     generalize w2.drew=wq at *
     refine yg 0 (.pointer (some ⟨p,0,none⟩)) rfl gH ?_
     refine yg 1 (.pointer (some ⟨p,0,none⟩)) rfl gH ?_
     simp only[Act.put,Ya,Yb,Yc,Yd,Ye,Yf]
     refine yg 2 (.pointer (some ⟨p,2,none⟩)) rfl gH ?_
     refine yk 3 (.slice A n c) rfl (fun w' hSw=>by have hq:=hSw;have hd:=(HRow.out _ hq).1;go_simp) gH ?_
     refine yg 4 (.int .i64 n) rfl gH ?_
     simp only[Act.put,Ya,Yb,Yc,Yd,Ye,Yf]
     refine yg 5 (.int .i64 ce) rfl gH ?_
     refine yg 6 (.pointer (some ⟨p,0,none⟩)) rfl gH ?_
     refine yg 7 (.pointer (some ⟨p,0,none⟩)) rfl gH ?_
     simp only[Act.put,Ya,Yb,Yc,Yd,Ye,Yf]
     refine yg 8 (.pointer (some ⟨p,1,none⟩)) rfl gH ?_
     refine yk 9 (.pointer (some ⟨B,0,none⟩)) rfl (fun w' hSw=>by have hq:=hSw;have hd:=(HRow.out _ hq).2;go_simp) gH ?_
     refine yg 10 (.int .i64 ce) rfl gH ?_
     simp only[Act.put,Ya,Yb,Yc,Yd,Ye,Yf]
     refine yg 12 (.int .i64 nn) rfl gH ?_
     refine yR 11 (by kernel_rfl) rfl (fun K1 hK1=>?_)
     try simp only[Act.put,Ya,Yb,Yc,Yd,Ye,Yf]
     go_simp
     refine Calls.mono (TK.out _ gH) ?_
     rintro e wc1 ⟨rfl,hb2⟩
     have HRw:=yh (HRw.out.below hb2)
     refine hK1.out _ _ (yaa gH hb2) (fun gH=>?_)
     clear hK1 K1
     refine' yl 13 (.agg CR.toArray) rfl (ybg (by rfl) 52 [(0,.tmp 21),(1,.tmp 22),(2,.tmp 28),(3,.tmp 29)] rfl [(0,.int .i64 n),(1,.int .i64 ce),(2,.int .i64 tk),(3,.int .i64 nn)] rfl CR.toArray HBu.out) gH ?_
     refine yR 14 (by kernel_rfl) rfl (fun K1 hK1=>?_)
     try simp only[Act.put,Ya,Yb,Yc,Yd,Ye,Yf]
     rw[if_pos (by rfl)]
     refine yar 52 (.tmp 4) (.tmp 30) rfl W.heap.size 0 CR _ _ rfl rfl HRw.out (by have:=HZ4.out;have:=HC4.out;omega) (by rw[yba,HC4.out]) HC1.out ?_
     intro ws3 hrS hgS
     rw[yad (HC4.out.trans HZ4.out.symm)]at hrS
     have HS9:=yh hrS
     have eH:=below_own gH hgS (fun k hk=>by cases hk;exact Nat.le_refl _)
     clear hrS hgS
     refine hK1.out _ _ eH (fun gH=>?_)
     clear hK1 K1
     clear eH
     refine yg 15 (.int .i64 0) rfl gH ?_
     refine wpAnyH_done (by kernel_rfl) ?_ _
     have HB9:=yh gH
     go_wp2_with fail
     refine bodyPost_ret (yaj rfl _ _ W.heap.size 52 CR _ rfl HS9.out Tryz.underlying52 rfl (by rw[yba];simp[HC4.out]) _ rfl) rfl ⟨rfl,HB9.out⟩
end
section
open Go.RowKit
theorem Oct.ye5 :∀(L:List (List UInt8)),((L.map Oct.text).flatten).length≤(L.map List.length).sum+9*L.length
 | []=>by simp
 | s::t=>by
   have h1:=Oct.ye5 t
   have h2:=Oct.yay s.length
   simp only[List.map_cons,List.flatten_cons,List.length_append,List.sum_cons,List.length_cons]
   have h3:(Oct.text s).length=(Oct.num s.length).length+s.length:=by unfold Oct.text;rw[List.length_append]
   omega
theorem Oct.yc3 (L:List (List UInt8)):(Oct.listE L).1.length≤(L.map List.length).sum+9*L.length+9:=by
 unfold Oct.listE
 split
 · simp
 · split
   · simp
   · next b hb=>
     have h1:=(Oct.ylw hb).2
     have h2:=Oct.yay L.length
     have h3:=Oct.ye5 L
     rw[List.length_append,h1]
     omega
def Rp.rcd (r:Rp):List UInt8:=1::r.textE.1
def Ct.nums (c:Ct):List Int:=[c.seq,c.first,c.before,c.count]
def Ct.rcd (c:Ct):List UInt8:=2::(Oct.listE (c.nums.map fun x=>(Oct.numE x).1)).1
theorem Rp.yc2 {r:Rp}(hp:r.prev.length=32)(hh:r.hash.length=32):r.rcd.length≤1000:=by
 unfold Rp.rcd Rp.textE
 by_cases h:r.ok=true
 · rw[if_pos h]
   split
   · have h1:=Oct.yc3 r.fields
     have h2:=(Rp.ydg r).1 h
     have e:(r.fields.map List.length).sum=(Oct.num r.index.toNat).length+((Oct.num r.kind.toNat).length+((Oct.num r.time.toNat).length+(r.body.size+64))):=by
      unfold Rp.fields Rp.texts Rp.numsL
      simp only[List.map_cons,List.map_nil,List.cons_append,List.nil_append,List.sum_cons,List.sum_nil,hp,hh]
      rfl
     have e2:r.fields.length=6:=rfl
     have n1:=Oct.yay r.index.toNat
     have n2:=Oct.yay r.kind.toNat
     have n3:=Oct.yay r.time.toNat
     rw[List.length_cons]
     omega
   · simp
 · rw[if_neg h];simp
theorem Oct.yfz (n:Int):(Oct.numE n).1.length≤9:=by
 unfold Oct.numE
 split
 · simp
 · exact Oct.yay _
theorem Ct.yc2 (c:Ct):c.rcd.length≤1000:=by
 unfold Ct.rcd
 have h1:=Oct.yc3 (c.nums.map fun x=>(Oct.numE x).1)
 have e:((c.nums.map fun x=>(Oct.numE x).1).map List.length).sum=(Oct.numE c.seq).1.length+((Oct.numE c.first).1.length+((Oct.numE c.before).1.length+((Oct.numE c.count).1.length+0))):=rfl
 have e2:(c.nums.map fun x=>(Oct.numE x).1).length=4:=rfl
 have n1:=Oct.yfz c.seq
 have n2:=Oct.yfz c.first
 have n3:=Oct.yfz c.before
 have n4:=Oct.yfz c.count
 rw[List.length_cons]
 omega
theorem yid (b:UInt8)(t:List UInt8):(⟨#[b]⟩:ByteArray)++⟨t.toArray⟩=⟨(b::t).toArray⟩:=by
 apply ByteArray.ext
 simp
theorem yec (r:Rp)(hf:r.Fits)(w:World)(hT:Tab w):Calls Tryz.prog 65 #[.agg r.cells.toArray] w fun e w'=>e=.returned (S r.rcd)∧Below w.heap.size w w':=by
 have hb0:=(Below.refl w.heap.size w).alloc (Nat.le_refl _) (.cells r.cells.toArray 64)
 have HB0:=yh hb0
 have HR0:=yh (Row.new w 64 r.cells)
 have HC68:=yh (Rp.yao hf.prev hf.hash)
 have WR:=yh (yfp r hf.prev hf.hash (w.alloc (.cells r.cells.toArray 64)) (hT.below hb0 hT.pos))
 have hl:=Rp.yc2 hf.prev hf.hash
 have hrc:S r.rcd=.string ((⟨#[1]⟩:ByteArray)++⟨r.textE.1.toArray⟩):=by rw[yid];rfl
 rw[hrc]
 have hsz:(⟨r.textE.1.toArray⟩:ByteArray).size≤1000:=by
  unfold Rp.rcd at hl
  rw[List.length_cons]at hl
  show r.textE.1.toArray.size≤1000
  simp
  omega
 have WR':Hid (Calls Tryz.prog 94 #[.agg r.cells.toArray] (w.alloc (.cells r.cells.toArray 64)) fun e w'=>e=.returned (.tuple #[.string ⟨r.textE.1.toArray⟩,.int .i64 r.textE.2])∧Below (w.alloc (.cells r.cells.toArray 64)).heap.size (w.alloc (.cells r.cells.toArray 64)) w'):=WR
 have h1s:(⟨#[1]⟩:ByteArray).size=1:=rfl
 generalize r.textE.2=ee at *
 generalize (⟨r.textE.1.toArray⟩:ByteArray)=tb at *
 generalize r.cells=C at *
 clear WR hb0 hl hrc hf hT
 go_enter Tryz.func65,Tryz.ntmps65
 go_wp2_with (first
  | ((with_reducible show wpList _ _ _ (⟨_,.load 64 (.tmp 1),_,_,_,_⟩::_) _ _);refine yac rfl 64 (.tmp 1) rfl w.heap.size 0 (rfl) C _ (yah HR0.out) Tryz.underlying64 rfl (by rw[yaf,HC68.out]) ?_))
 refine WR'.out.mono ?_
 rintro _ w1 ⟨rfl,hb1⟩
 have HB1:=yh (yaa HB0.out hb1)
 clear hb1 WR'
 go_wp2_with fail
 go_ret
 exact⟨rfl,HB1.out⟩
def tc (s:List UInt8):List Value:=[S s]
theorem ynd:(Tryz.prog.info? 9).map (fun i=>(i.zero,i.size,i.bytes))=some (some (.string ByteArray.empty),1,16):=by kernel_rfl
theorem yed {ops:Array Oper}{rest:List Oper}{o:Oper}{a:Act}{w:World}{Q:Exit→Act→World→Prop}(hgd:o.guard=none)(sl y:Operand)(ho:o.op=.call { callee:=.builtin .append,args:=#[sl,y],argTypes:=#[56,56] })
 (s:List UInt8) (gv:Nat) (hrow:Row w gv 9 (tc s)) (base:Nat) (v:Value) (l:List (List UInt8)) (hown:OwnL w base 9 1 tc v l) (hbase:base≤w.heap.size) (hlen:l.length≤100000)
 (hs:a.eval sl=v) (hy:a.eval y=.slice (some ⟨gv,0,none⟩) 1 1)
 (H :∀v' w',OwnL w' base 9 1 tc v' (l ++ [s])→Chg (fun k=>v.ownBlock=some k) w w'→(∀k,v'.ownBlock=some k→v.ownBlock=some k∨w.heap.size≤k)→wpList Tryz.prog ops Q rest (a.put o.dst v') w'):wpList Tryz.prog ops Q (o::rest) a w:=by
 refine wpList_plain hgd fun _ hK=>?_
 obtain⟨i0,hi,h2⟩:=Option.map_eq_some_iff.1 ynd
 simp only[Prod.mk.injEq]at h2
 obtain⟨hz,hsz,hby⟩:=h2
 refine ybx sl y 56 ho base 9 i0 (.string ByteArray.empty) 1 16 Tryz.underlying56 hi hz hsz hby rfl (by decide) v l.length (Rw.flat tc l) hs hown.own ⟨gv,0,none⟩ 1 1 (tc s) hy rfl (fun j u hu=>?_) (fun u hu=>by simp[tc]at hu;subst hu;rfl) (by decide) (by unfold maxLen;omega) (by omega) hbase (fun v' w' ho hg hat=>hK _ _ (H v' w' (OwnL.pushed ho) ?_ ?_))
 · have:=yah hrow j u hu
   rw[Nat.zero_add]at this
   have hadd:(⟨gv,0,none⟩:Addr).add j=⟨gv,j,none⟩:=by unfold Addr.add;split <;> simp_all
   rw[hadd]
   exact this
 · exact Chg.yat (S:=fun k=>v.ownBlock=some k) hg (fun k hk=>.inl hk)
 · intro k hk
   rcases hat with q|q
   · exact .inl (q ▸ hk)
   · rw[q]at hk
     cases hk
     exact .inr (Nat.le_refl _)
theorem yqs {w:World}{base:Nat}{v:Value}{L:List (List UInt8)}(h:OwnL w base 9 1 tc v L):Calls Tryz.prog 95 #[v] w fun e w'=>e=.returned (.tuple #[.string ⟨(Oct.listE L).1.toArray⟩,.int .i64 (Oct.listE L).2])∧Below w.heap.size w w':=by
 obtain⟨A,c,rfl,_,_⟩:=h.form
 refine ym8 A c L w (fun hne=>?_)
 obtain⟨g,c',e,_,hgl⟩:=h.ne hne
 injection e with ea eb ec
 subst ea
 refine⟨g,0,rfl,hgl,fun i hi=>?_⟩
 have:=h.at (fun _ _=>rfl) i hi 0 (S L[i]) rfl
 rw[Nat.zero_add]
 rwa[Nat.mul_one,Nat.add_zero]at this
theorem yh8 (c:Ct)(hc :∀x∈c.nums,x≤9223372036854775807)(w:World):Calls Tryz.prog 68 #[.agg c.cells.toArray] w fun e w'=>e=.returned (S c.rcd)∧Below w.heap.size w w':=by
 have hb0:=(Below.refl w.heap.size w).alloc (Nat.le_refl _) (.cells c.cells.toArray 52)
 have hr0:=Row.new w 52 c.cells
 have q0:=hr0.cell 0 (by simp[Ct.cells])
 have q1:=hr0.cell 1 (by simp[Ct.cells])
 have q2:=hr0.cell 2 (by simp[Ct.cells])
 have q3:=hr0.cell 3 (by simp[Ct.cells])
 simp only[Ct.cells,List.getElem_cons_zero,List.getElem_cons_succ]at q0 q1 q2 q3
 have HN:Hid (∀k (h:k<c.nums.length),c.nums[k]≤9223372036854775807):=yh (fun k h=>hc _ (List.getElem_mem h))
 have hl:=Ct.yc2 c
 have hrc:S c.rcd=.string ((⟨#[2]⟩:ByteArray)++⟨(Oct.listE (c.nums.map fun x=>(Oct.numE x).1)).1.toArray⟩):=by rw[yid];rfl
 rw[hrc]
 have hsz:(⟨(Oct.listE (c.nums.map fun x=>(Oct.numE x).1)).1.toArray⟩:ByteArray).size≤1000:=by
  unfold Ct.rcd at hl
  rw[List.length_cons]at hl
  show (Oct.listE (c.nums.map fun x=>(Oct.numE x).1)).1.toArray.size≤1000
  simp at hl ⊢
  omega
 have HSz:=yh hsz
 clear hl hrc hsz hc hr0
 have HB0:=yh hb0
 have hrn:=Row.new (w.alloc (.cells c.cells.toArray 52)) 3 (Is c.nums)
 have hb1:=hb0.alloc (by simp) (.cells (Is c.nums).toArray 3)
 have HR1:=yh hrn
 have HB1:=yh hb1
 clear hrn hb1 hb0
 show Calls _ _ #[.agg #[.int .i64 c.seq,.int .i64 c.first,.int .i64 c.before,.int .i64 c.count]] _ _
 have e4:(Is c.nums).toArray=#[.int .i64 c.seq,.int .i64 c.first,.int .i64 c.before,.int .i64 c.count]:=rfl
 have eC:c.cells.toArray=#[.int .i64 c.seq,.int .i64 c.first,.int .i64 c.before,.int .i64 c.count]:=rfl
 rw[eC]at HB0
 rw[e4,eC]at HB1 HR1
 clear e4 eC
 have HNl:Hid (c.nums.length=4):=yh rfl
 generalize c.nums=ns at *
 generalize c.seq=s0 at *
 generalize c.first=s1 at *
 generalize c.before=s2 at *
 generalize c.count=s3 at *
 go_enter Tryz.func68,Tryz.ntmps68
 go_wp2_with fail
 clear q0 q1 q2 q3
 generalize (w.alloc (.cells #[.int .i64 s0,.int .i64 s1,.int .i64 s2,.int .i64 s3] 52)).alloc (.cells #[.int .i64 s0,.int .i64 s1,.int .i64 s2,.int .i64 s3] 3)=w1 at *
 rw[show (w.alloc (.cells #[.int .i64 s0,.int .i64 s1,.int .i64 s2,.int .i64 s3] 52)).heap.size=w.heap.size+1 by simp]at HR1
 have HR1':Hid (Row w1 (w.heap.size+1) 3 (Is ns)):=HR1
 have HB1':Hid (Below w.heap.size w w1):=HB1
 have HO1:Hid (OwnL w1 w1.heap.size 9 1 tc (.slice none 0 0) ((ns.take 0).map fun x=>(Oct.numE x).1)):=yh (OwnL.nil _ _ _ _ _)
 have HG:Hid (w.heap.size+1<w1.heap.size):=yh HR1'.out.lt
 clear HR1 HB1
 generalize w.heap.size+1=gn at *
 go_loopw [3,20] (fun s3 s20 wr =>∃k:Nat,k≤4∧s20=.int .i64 k∧OwnL wr w1.heap.size 9 1 tc s3 ((ns.take k).map fun x=>(Oct.numE x).1)∧Below w1.heap.size w1 wr) (fun _ i _=>4-(intOf i).toNat)
 case atStart=>exact⟨0,by omega,rfl,HO1.out,Below.refl _ _⟩
 case round=>
  obtain⟨k,hk,rfl,ho,hb⟩:=hrel
  have HO:=yh ho
  have HB:=yh hb
  clear ho hb HO1
  have hk0:(0:Int)≤(k:Int):=by omega
  by_cases hk4:k<4
  · have hki:(k:Int)<4:=by omega
    have hkn:k<ns.length:=by rw[HNl.out];exact hk4
    have cn:wr.cell? ⟨gn,k,none⟩=some (.int .i64 ns[k]):=(HB.out.cell (p:=⟨gn,k,none⟩) HG.out).trans ((HR1'.out.cell k (by unfold Is;rw[List.length_map];exact hkn)).trans (by unfold Is;simp))
    have NM:=yh (ydm ns[k] wr (HN.out k hkn))
    have HT:Hid ((ns.take (k+1)).map (fun x=>(Oct.numE x).1)=(ns.take k).map (fun x=>(Oct.numE x).1) ++ [(Oct.numE ns[k]).1]):=yh (by rw[←List.take_append_getElem hkn,List.map_append];rfl)
    have HLk:Hid (((ns.take k).map fun x=>(Oct.numE x).1).length≤100000):=yh (by rw[List.length_map,List.length_take];omega)
    have NM':Hid (Calls Tryz.prog 90 #[.int .i64 ns[k]] wr fun e w'=>e=.returned (.tuple #[S (Oct.numE ns[k]).1,.int .i64 (Oct.numE ns[k]).2])∧Below wr.heap.size wr w'):=NM
    generalize (ns.take k).map (fun x=>(Oct.numE x).1)=L1 at *
    generalize (Oct.numE ns[k]).2=ne at *
    generalize (Oct.numE ns[k]).1=nt at *
    generalize ns[k]=nk at *
    clear NM hkn
    go_wp2_with fail
    refine NM'.out.mono ?_
    rintro _ w3 ⟨rfl,hb3⟩
    have HO3:=yh ((HO.out.below hb3).alloc (.cells #[S nt] 9))
    have hb4:=(Below.refl w3.heap.size w3).alloc (Nat.le_refl _) (.cells #[S nt] 9)
    have HB4:=yh (yaa (yaa HB.out hb3) hb4)
    have HR4:=yh (Row.new w3 9 (tc nt))
    clear hb3 hb4 cn NM'
    go_wp2_with (first
     | ((with_reducible show wpList _ _ _ (⟨_, .call { callee := .builtin .append, args := _, argTypes := _ }, _, _, _, _⟩ :: _) _ _)
        refine yed rfl (.tmp 29) (.tmp 31) rfl nt w3.heap.size HR4.out w1.heap.size _ L1 HO3.out HB4.out.size HLk.out rfl rfl (fun v' w' ho hc hq=>?_)
        have HO5:=yh ho
        have HB5:=yh (ybt HB4.out hc HB4.out.size (fun k hk=>(HO3.out.lt k hk).1))
        clear ho hc hq))
    exact⟨⟨k+1,by omega,by go_num,by rw[HT.out];exact HO5.out,HB5.out⟩,by simp[intOf];omega⟩
  · have hki :¬(k:Int)<4:=by omega
    have htk:ns.take k=ns:=List.take_of_length_le (by rw[HNl.out];omega)
    rw[htk]at HO
    have LS:=yh (yqs HO.out)
    have h2s:(⟨#[2]⟩:ByteArray).size=1:=rfl
    have hsz:=HSz.out
    have HBw:=yh (Below.grown HB1'.out (yae HB.out none) HB1'.out.size (fun k hk=>by cases hk))
    obtain⟨tb,htb⟩:=yx ((⟨(Oct.listE (ns.map fun x=>(Oct.numE x).1)).1.toArray⟩:ByteArray))
    rw[htb]at LS hsz
    have HTb:=yh htb
    generalize (Oct.listE (ns.map fun x=>(Oct.numE x).1)).2=te at *
    clear htk hk4 HN HSz htb
    go_wp2_with fail
    refine LS.out.mono ?_
    rintro _ w5 ⟨rfl,hb5⟩
    have HB6:=yh (yaa HBw.out hb5)
    clear hb5 LS
    go_wp2_with fail
    go_ret
    exact⟨by rw[HTb.out];rfl,HB6.out⟩
end
end Go.Proofs.YtalfnadejpmjnaaGreatDoor
