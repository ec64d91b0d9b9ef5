/- A part. -/
import Derived.Test.YtalfnadejpmjnaaGreatDoorNRw
import Derived.WalkMore
import Derived.Deep.LoopGhost
import Derived.Lib.Walk
import Derived.Lib.SliceRun
set_option linter.unusedVariables false
set_option linter.unusedSimpArgs false
set_option maxRecDepth 100000
set_option maxHeartbeats 25600000
namespace Go.Proofs.YtalfnadejpmjnaaGreatDoor
section
open Go.RowKit
theorem ybc {P:Program}{op:Oper}{a:Act}{w:World}{K:Act→World→Prop}{Q:Exit→Act→World→Prop}(ty:TypeId)(x y:Operand)(ho:op.op=.store ty x y)
 (g i:Nat) (T:TypeId) (xs:List Value) (A:Option Addr) (n c:Nat) (hx:a.eval x=.pointer (some ⟨g,i,none⟩)) (hy:a.eval y=.slice A n c) (hg:Row w g T xs) (hi:i<xs.length) (hs:(P.info? ty).map (·.size)=some 1)
 (H :∀w',Row w' g T (xs.set i (.slice A n c))→w.grownBy w' (some g)→K (a.put op.dst undef) w'):op.wp P a w K Q:=by
 have hc:=hg.cell i hi
 have hf:=hg.free i
 have e:(storeVar ty ⟨g,i,none⟩ (.slice A n c)).run P w=(storeVar ty ⟨g,i,none⟩ (.agg #[.slice A n c])).run P w:=by simp[storeVar,Value.cells]
 have hr:=run_storeVar_mid (P:=P) w g i ty #[.slice A n c] (fun j hj=>by
  have:j=0:=by simp at hj;omega
  subst this
  exact⟨by rw[Nat.add_zero,hc];rfl,hf⟩) (by rw[hs];rfl) (all_oneCell_toArray (cs:=[.slice A n c]) (fun v hv=>by simp only[List.mem_singleton]at hv;subst hv;rfl))
 obtain⟨r1,r2⟩:=yb3 [.slice A n c] i w xs hg (by simp;omega)
 unfold Oper.wp execOp
 simp only[ho,hx,hy,Instr.storeAt,Instr.sureAddr,Sem.run_bind,Sem.run_pure,Result.andThen_ok,e,hr]
 refine H _ ?_ r2
 have e2:xs.take i++([.slice A n c]++xs.drop (i + [Value.slice A n c].length))=xs.set i (.slice A n c):=by
  rw[List.set_eq_take_append_cons_drop,if_pos hi]
  rfl
 rw[←e2]
 exact r1
theorem yjm {P:Program}{op:Oper}{a:Act}{w:World}{K:Act→World→Prop}{Q:Exit→Act→World→Prop}(ty:TypeId)(x y:Operand)(ho:op.op=.store ty x y)
 (g i:Nat) (T:TypeId) (xs:List Value) (z:Int) (hx:a.eval x=.pointer (some ⟨g,i,none⟩)) (hy:a.eval y=.int .i64 z) (hg:Row w g T xs) (hi:i<xs.length) (hs:(P.info? ty).map (·.size)=some 1)
 (H :∀w',Row w' g T (xs.set i (.int .i64 z))→w.grownBy w' (some g)→K (a.put op.dst undef) w'):op.wp P a w K Q:=by
 have hc:=hg.cell i hi
 have hf:=hg.free i
 have e:(storeVar ty ⟨g,i,none⟩ (.int .i64 z)).run P w=(storeVar ty ⟨g,i,none⟩ (.agg #[.int .i64 z])).run P w:=by simp[storeVar,Value.cells]
 have hr:=run_storeVar_mid (P:=P) w g i ty #[.int .i64 z] (fun j hj=>by
  have:j=0:=by simp at hj;omega
  subst this
  exact⟨by rw[Nat.add_zero,hc];rfl,hf⟩) (by rw[hs];rfl) (all_oneCell_toArray (cs:=[.int .i64 z]) (fun v hv=>by simp only[List.mem_singleton]at hv;subst hv;rfl))
 obtain⟨r1,r2⟩:=yb3 [.int .i64 z] i w xs hg (by simp;omega)
 unfold Oper.wp execOp
 simp only[ho,hx,hy,Instr.storeAt,Instr.sureAddr,Sem.run_bind,Sem.run_pure,Result.andThen_ok,e,hr]
 refine H _ ?_ r2
 have e2:xs.take i++([.int .i64 z]++xs.drop (i + [Value.int .i64 z].length))=xs.set i (.int .i64 z):=by
  rw[List.set_eq_take_append_cons_drop,if_pos hi]
  rfl
 rw[←e2]
 exact r1
theorem rowX {W:World}{g:Nat}{T:TypeId}{v:Value}(h:Row W g T [v]):W.cell? ⟨g,0,none⟩=some v:=by
 have:=h.cell 0 (by simp)
 simpa only [List.getElem_cons_zero] using this
theorem ya7 {P:Program}{fn:Func}{p u s:Tmp}{ty:TypeId}(h:fn.results=#[.cell p ty,.tmp u,.tmp s])(tmps:Array Value)(w:World)(g:Nat)(T:TypeId)(xs:List Value)(d:TypeDesc)
 (hp:tmps.getD p undef=.pointer (some ⟨g,0,none⟩)) (hg:Row w g T xs)
 (hu:P.underlying ty=some d) (hd:(match d with | .struct _ | .array _ _=>true|_=>false)=true) (hi:(P.info? ty).map (·.size)=some xs.toArray.size) (x y:Value) (hx:tmps.getD u undef=x) (hy:tmps.getD s undef=y):
 (results fn tmps).run P w=.ok (.tuple #[.agg xs.toArray,x,y]) w:=by
 have hl:=run_loadVar_row w g T ty xs.toArray (0,0) d hg hu hd hi
 have ha:(asAddr (.pointer (some ⟨g,0,none⟩))).run P w=.ok ⟨g,0,none⟩ w:=rfl
 have hp2:tmps[p]?.getD undef=.pointer (some ⟨g,0,none⟩):=by simpa using hp
 have hx2:tmps[u]?.getD undef=x:=by simpa using hx
 have hy2:tmps[s]?.getD undef=y:=by simpa using hy
 simp only[results,h]
 simp[Sem.run_bind,Result.andThen,hp2,ha,hl,hx2,hy2]
theorem Rp.lens {l:List Rp}(h :∀r∈l,r.Fits) :∀r∈l,(Rp.cells r).length=68:=fun r hr=>Rp.yao (h r hr).prev (h r hr).hash
theorem Rp.yal:Rp.zero.Fits:=⟨rfl,rfl,by decide,⟨by decide,by decide⟩,⟨by decide,by decide⟩,⟨by decide,by decide⟩⟩
theorem ydz (W:World):(zeroValue 64).run Tryz.prog W=.ok (.agg Rp.zero.cells.toArray) W:=by kernel_rfl
def ic (i:Int):List Value:=[.int .i64 i]
theorem Rp.at {W:World}{g o:Nat}{r:Rp}(hp:r.prev.length=32)(h:W.rangeAt g o r.cells):W.cell? ⟨g,o,none⟩=some (.int .i64 r.index)∧W.cell? ⟨g,o+1,none⟩=some (.int .i64 r.kind)∧W.cell? ⟨g,o+2,none⟩=some (.int .i64 r.time)∧W.cell? ⟨g,o+3,none⟩=some (.string r.body)∧W.rangeAt g (o+36) (bRow r.hash).toList:=by
 refine⟨h 0 _ rfl,h 1 _ rfl,h 2 _ rfl,h 3 _ rfl,fun j v hv=>?_⟩
 have e:r.cells[36+j]? = some v:=by
  unfold Rp.cells
  rw[←List.append_assoc,List.getElem?_append_right (by rw[List.length_append,Tx.yap _ hp];simp),List.length_append,Tx.yap _ hp]
  rw[show 36+j-([Value.int .i64 r.index,.int .i64 r.kind,.int .i64 r.time,.string r.body].length+32)=j by simp]
  exact hv
 have:=h _ _ e
 rwa[show o+(36+j)=o+36+j by omega]at this
abbrev LT19:TypeId:=110
structure LogAt (w:World)(base B:Nat)(v dv:Value)(rs:List Rp):Prop where
 row:Row w B LT19 (v::(Is (Od.nexts rs) ++ [dv]))
 own:OwnL w base 64 68 Rp.cells v rs
 dow:OwnL w base 3 1 ic dv (Od.del rs)
 good:Od.Good rs
 len:rs.length≤1000
 lo:base≤B
def LS (B:Nat)(v dv:Value)(k:Nat):Prop:=k=B∨v.ownBlock=some k∨dv.ownBlock=some k
section
variable {w w' : World} {base B : Nat} {v dv : Value} {rs : List Rp}
theorem LogAt.chg {S:Nat→Prop}(h:LogAt w base B v dv rs)(hc:Chg S w w')(hS :∀k,LS B v dv k→¬S k):LogAt w' base B v dv rs:=
 ⟨hc.row h.row (hS _ (.inl rfl)),h.own.chg hc (fun k hk=>hS k (.inr (.inl hk))),h.dow.chg hc (fun k hk=>hS k (.inr (.inr hk))),h.good,h.len,h.lo⟩
theorem LogAt.below (h:LogAt w base B v dv rs)(hb:Below w.heap.size w w'):LogAt w' base B v dv rs:=
 h.chg (S:=fun _=>False) (Chg.ya6 hb) (fun _ _ h=>h)
theorem LogAt.lt (h:LogAt w base B v dv rs) :∀k,LS B v dv k→base≤k∧k<w.heap.size:=by
 rintro k (rfl|hk|hk)
 · exact⟨h.lo,h.row.lt⟩
 · exact h.own.lt k hk
 · exact h.dow.lt k hk
theorem LogAt.c0 (h:LogAt w base B v dv rs):w.cell? ⟨B,0,none⟩=some v:=h.row.cell 0 (by simp)
theorem LogAt.cN (h:LogAt w base B v dv rs)(i:Nat)(hi:i<64):w.cell? ⟨B,1+i,none⟩=some (.int .i64 (Od.cnt rs (i:Int))):=by
 have hl:(Is (Od.nexts rs)).length=64:=by unfold Is;rw[List.length_map,Od.ycp]
 rw[show 1+i=i+1 by omega]
 have h1:=h.row.cell (i+1) (by simp[hl];omega)
 rw[h1]
 congr 1
 simp only[List.getElem_cons_succ]
 rw[List.getElem_append_left (by rw[hl];exact hi)]
 unfold Is
 rw[List.getElem_map,Od.yez rs i hi]
theorem LogAt.c65 (h:LogAt w base B v dv rs):w.cell? ⟨B,65,none⟩=some dv:=by
 have hl:(Is (Od.nexts rs)).length=64:=by unfold Is;rw[List.length_map,Od.ycp]
 have h1:=h.row.cell 65 (by simp[hl])
 rw[h1]
 congr 1
theorem LogAt.fits (h:LogAt w base B v dv rs) :∀r∈rs,r.Fits:=h.good.fits
theorem LogAt.form (h:LogAt w base B v dv rs) :∃A c,v=.slice A rs.length c:=by obtain⟨A,c,e,_⟩:=h.own.form;exact⟨A,c,e⟩
end
def LTo (w w':World)(base B:Nat)(v dv:Value)(rs':List Rp):Prop:=
 ∃v' dv',LogAt w' base B v' dv' rs'∧Chg (LS B v dv) w w'∧∀k,LS B v' dv' k→LS B v dv k∨w.heap.size≤k
theorem LogAt.to {w w':World}{base B:Nat}{v dv:Value}{rs:List Rp}(h:LogAt w base B v dv rs)(hb:Below w.heap.size w w'):LTo w w' base B v dv rs:=
 ⟨v,dv,h.below hb,Chg.ya6 hb,fun k hk=>.inl hk⟩
theorem OwnL.ne_own {α β : Type}{w:World}{b1 b2:Nat}{e1 e2:TypeId}{m1 m2:Nat}{f : α→List Value}{g : β→List Value}{u v:Value}{l:List α}{k:List β}(h1:OwnL w b1 e1 m1 f u l)(h2:OwnL w b2 e2 m2 g v k)(he:e1≠e2) :∀j,u.ownBlock=some j→v.ownBlock≠some j:=by
 intro j hj hv
 rcases h1.own.2 with⟨q,_⟩|⟨g1,c1,x1,q,_,hg1,_⟩
 · rw[q]at hj;cases hj
 rcases h2.own.2 with⟨q2,_⟩|⟨g2,c2,x2,q2,_,hg2,_⟩
 · rw[q2]at hv;cases hv
 rw[q]at hj
 rw[q2]at hv
 cases hj
 cases hv
 rw[hg1]at hg2
 simp at hg2
 exact he hg2.2
end
section
open Go.RowKit
theorem LogAt.lenC {w:World}{base B:Nat}{v dv:Value}{rs:List Rp}(h:LogAt w base B v dv rs):
 Calls Tryz.prog 41 #[.pointer (some ⟨B,0,none⟩)] w fun e w'=>e=.returned (.int .i64 rs.length)∧w=w':=by
 obtain⟨A,c,rfl⟩:=h.form
 have c0:=h.c0
 generalize rs.length=n at *
 clear h
 go_enter Tryz.func41,Tryz.ntmps41
 go_wp2_with fail
 go_ret
 exact⟨rfl,rfl⟩
theorem LogAt.at_yes {w:World}{base B:Nat}{v dv:Value}{rs:List Rp}(h:LogAt w base B v dv rs)(k:Nat)(hk:k<rs.length):
 Calls Tryz.prog 161 #[.pointer (some ⟨B,0,none⟩),.int .i64 (k:Int)] w fun e w'=>e=.returned (.tuple #[.agg rs[k].cells.toArray,.int .i64 0])∧Below w.heap.size w w':=by
 obtain⟨A,c,rfl⟩:=h.form
 have hzv:=ydz
 have HBt:Hid (Tryz.prog.built 64 []=some Rp.zero.cells.toArray):=yh Rp.yaz
 have HZ68:=yh (Rp.yao Rp.yal.prev Rp.yal.hash)
 have HZ1:=yh (Rp.yan Rp.yal.prev Rp.yal.hash)
 obtain⟨ZT,hZT⟩:=yx (Rp.zero.cells)
 rw[hZT]at hzv HBt HZ68 HZ1
 have HZT:=yh hZT
 clear hZT
 have hf:=h.fits _ (List.getElem_mem hk)
 obtain⟨g,c',hge,_,hgl⟩:=h.own.ne (by intro e;rw[e]at hk;simp at hk)
 injection hge with ea eb ec
 subst ea
 clear eb ec
 have hrng:=h.own.at (Rp.lens h.fits) k hk
 have HC68:=yh (Rp.yao hf.prev hf.hash)
 have HC1:=yh (Rp.yan hf.prev hf.hash)
 obtain⟨C,hC⟩:=yx (rs[k].cells)
 rw[hC]at hrng HC68 HC1 ⊢
 have hb0:=(Below.refl w.heap.size w).alloc (Nat.le_refl _) (.cells ZT.toArray 64)
 have c0:=(h.below hb0).c0
 have HRg:Hid ((w.alloc (.cells ZT.toArray 64)).rangeAt g (k*68) C):=yh (fun j v hv=>(hb0.cell (p:=⟨g,k*68+j,none⟩) hgl).trans (hrng j v hv))
 have HR0:=yh (Row.new w 64 ZT)
 have HB0:=yh hb0
 have hk0:(0:Int)≤(k:Int):=by omega
 have hkn:(k:Int)<(rs.length:Int):=by omega
 have d1:decide ((k:Int)<0)=false:=decide_eq_false (by omega)
 have d2:decide ((k:Int)≥(rs.length:Int))=false:=decide_eq_false (by omega)
 have d2':decide ((rs.length:Int)≤(k:Int))=false:=decide_eq_false (by omega)
 clear h hf hrng hC hb0 hgl hk
 generalize rs.length=n at *
 go_enter Tryz.func161,Tryz.ntmps161
 go_wp2_with (first
  | ((with_reducible show wpList _ _ _ (⟨_,.load 64 (.tmp 26),_,_,_,_⟩::_) _ _);refine yac rfl 64 (.tmp 26) rfl g (k*68) (by first|rfl|simp) C _ (HRg.out) Tryz.underlying64 rfl (by rw[yaf,HC68.out]) ?_)
  | (
     with_reducible show wpList _ _ _ (⟨_,.store 64 (.tmp 4) _,_,_,_,_⟩::_) _ _
     refine yab rfl 64 (.tmp 4) (.tmp 27) rfl w.heap.size 0 C ZT _ rfl rfl (HR0.out) (by have:=HZ68.out;have:=HC68.out;omega) (by rw[yaf,HC68.out]) HC1.out ?_
     intro w9 hr hg
     rw[yad (HC68.out.trans HZ68.out.symm)]at hr
     have HS9:=yh hr
     have HB9:=yh (below_own HB0.out hg (fun k hk=>by cases hk;exact Nat.le_refl _))
     clear hr hg))
 refine bodyPost_ret (yaj rfl _ _ w.heap.size 64 C _ rfl HS9.out Tryz.underlying64 rfl (by rw[yaf];simp[HC68.out]) (.int .i64 0) rfl) rfl ⟨rfl,HB9.out⟩
theorem LogAt.at_no {w:World}{base B:Nat}{v dv:Value}{rs:List Rp}(h:LogAt w base B v dv rs)(i:Int)(hi:i<0∨(rs.length:Int)≤i):
 Calls Tryz.prog 161 #[.pointer (some ⟨B,0,none⟩),.int .i64 i] w fun e w'=>e=.returned (.tuple #[.agg Rp.zero.cells.toArray,.int .i64 4])∧Below w.heap.size w w':=by
 obtain⟨A,c,rfl⟩:=h.form
 have hzv:=ydz
 have HBt:Hid (Tryz.prog.built 64 []=some Rp.zero.cells.toArray):=yh Rp.yaz
 have HZ68:=yh (Rp.yao Rp.yal.prev Rp.yal.hash)
 have HZ1:=yh (Rp.yan Rp.yal.prev Rp.yal.hash)
 obtain⟨ZT,hZT⟩:=yx (Rp.zero.cells)
 rw[hZT]at hzv HBt HZ68 HZ1
 have HZT:=yh hZT
 clear hZT
 have hb0:=(Below.refl w.heap.size w).alloc (Nat.le_refl _) (.cells ZT.toArray 64)
 have c0:=(h.below hb0).c0
 have HR0:=yh (Row.new w 64 ZT)
 have HB0:=yh hb0
 rw[HZT.out]
 generalize rs.length=n at *
 clear h hb0
 by_cases hi0:i<0
 · have d1:decide (i<0)=true:=decide_eq_true hi0
   clear hi hi0
   go_enter Tryz.func161,Tryz.ntmps161
   go_wp2_with (first
    | ((with_reducible show wpList _ _ _ (⟨_,.build 64 _,_,_,_,_⟩::_) _ _);refine yak rfl 64 [] rfl (some 20) rfl _ rfl ZT.toArray HBt.out ?_)
    | (
       with_reducible show wpList _ _ _ (⟨_,.store 64 (.tmp 4) _,_,_,_,_⟩::_) _ _
       refine yab rfl 64 (.tmp 4) (.tmp 20) rfl w.heap.size 0 ZT ZT _ rfl rfl (HR0.out) (by have:=HZ68.out;have:=HZ68.out;omega) (by rw[yaf,HZ68.out]) HZ1.out ?_
       intro w9 hr hg
       rw[yad (HZ68.out.trans HZ68.out.symm)]at hr
       have HS9:=yh hr
       have HB9:=yh (below_own HB0.out hg (fun k hk=>by cases hk;exact Nat.le_refl _))
       clear hr hg))
   refine bodyPost_ret (yaj rfl _ _ w.heap.size 64 ZT _ rfl HS9.out Tryz.underlying64 rfl (by rw[yaf];simp[HZ68.out]) (.int .i64 4) rfl) rfl ⟨rfl,HB9.out⟩
 · have d1:decide (i<0)=false:=decide_eq_false hi0
   have d2:decide (i≥(n:Int))=true:=decide_eq_true (by omega)
   have d2':decide ((n:Int)≤i)=true:=decide_eq_true (by omega)
   clear hi hi0
   go_enter Tryz.func161,Tryz.ntmps161
   go_wp2_with (first
    | ((with_reducible show wpList _ _ _ (⟨_,.build 64 _,_,_,_,_⟩::_) _ _);refine yak rfl 64 [] rfl (some 20) rfl _ rfl ZT.toArray HBt.out ?_)
    | (
       with_reducible show wpList _ _ _ (⟨_,.store 64 (.tmp 4) _,_,_,_,_⟩::_) _ _
       refine yab rfl 64 (.tmp 4) (.tmp 20) rfl w.heap.size 0 ZT ZT _ rfl rfl (HR0.out) (by have:=HZ68.out;have:=HZ68.out;omega) (by rw[yaf,HZ68.out]) HZ1.out ?_
       intro w9 hr hg
       rw[yad (HZ68.out.trans HZ68.out.symm)]at hr
       have HS9:=yh hr
       have HB9:=yh (below_own HB0.out hg (fun k hk=>by cases hk;exact Nat.le_refl _))
       clear hr hg))
   refine bodyPost_ret (yaj rfl _ _ w.heap.size 64 ZT _ rfl HS9.out Tryz.underlying64 rfl (by rw[yaf];simp[HZ68.out]) (.int .i64 4) rfl) rfl ⟨rfl,HB9.out⟩
theorem head19 (p:Value)(n:Int)(r:Rp)(hr:r.Fits)(e:Int)(w:World)(L :∀W,Below w.heap.size w W→Calls Tryz.prog 41 #[p] W fun e w'=>e=.returned (.int .i64 n)∧W=w')(hn : -1≤n-1∧n≤100000)
 (A :∀W,Below w.heap.size w W→Calls Tryz.prog 161 #[p,.int .i64 (n-1)] W fun e' w'=>e'=.returned (.tuple #[.agg r.cells.toArray,.int .i64 e])∧Below W.heap.size W w'):
 Calls Tryz.prog 129 #[p] w fun e w'=>e=.returned (.agg (bRow r.hash))∧Below w.heap.size w w':=by
 have LN:=yh L
 have AT:=yh A
 have ew:IntKind.i64.wrap (n-1)=n-1:=IntWalk.i64_in _ (by omega)
 have hzh :∀W:World,(zeroValue 62).run Tryz.prog W=.ok (.agg (bRow Tx.zero).toList.toArray) W:=fun W=>by rw[Array.toArray_toList];exact yi8 W
 have HZ32:=yh (Tx.yap Tx.zero rfl)
 have HH32:=yh (Tx.yap r.hash hr.hash)
 have HH1:Hid (∀v∈(bRow r.hash).toList,v.oneCell'=true):=yh (ybw _ hr.hash)
 have HC68:=yh (Rp.yao hr.prev hr.hash)
 have HC1:=yh (Rp.yan hr.prev hr.hash)
 have HAt:=yh (fun W g (h:Row W g 64 r.cells)=>(Rp.at hr.prev (yah h)).2.2.2.2)
 have hzv:=ydz
 have HBt:Hid (Tryz.prog.built 64 []=some Rp.zero.cells.toArray):=yh Rp.yaz
 have HZ68:=yh (Rp.yao Rp.yal.prev Rp.yal.hash)
 have HZ1:=yh (Rp.yan Rp.yal.prev Rp.yal.hash)
 obtain⟨ZT,hZT⟩:=yx (Rp.zero.cells)
 rw[hZT]at hzv HBt HZ68 HZ1
 have HZT:=yh hZT
 clear hZT
 rw[show (bRow r.hash)=(bRow r.hash).toList.toArray by rw[Array.toArray_toList]]
 generalize (bRow r.hash).toList=H at *
 generalize (bRow Tx.zero).toList=ZH at *
 obtain⟨C,hC⟩:=yx (r.cells)
 rw[hC]at AT HC68 HC1 HAt
 have HB1:=yh ((Below.refl w.heap.size w).alloc (Nat.le_refl _) (.cells ZH.toArray 62))
 have HR1:=yh (Row.new w 62 ZH)
 clear L A hn hr hC
 go_enter Tryz.func129,Tryz.ntmps129
 go_wp2_with fail
 refine(LN.out _ HB1.out).mono ?_
 rintro _ w2 ⟨rfl,rfl⟩
 go_wp2_with fail
 refine(AT.out _ HB1.out).mono ?_
 rintro _ w3 ⟨rfl,hb3⟩
 have HB3:=yh (yaa HB1.out hb3)
 have HR3:=yh (HR1.out.below hb3)
 clear hb3
 go_wp2_with (first
  | (
     with_reducible show wpList _ _ _ (⟨_,.store 64 (.tmp 3) _,_,_,_,_⟩::_) _ _
     refine yab rfl 64 (.tmp 3) (.tmp 11) rfl w3.heap.size 0 C ZT _ rfl rfl (Row.new w3 64 ZT) (by have:=HZ68.out;have:=HC68.out;omega) (by rw[yaf,HC68.out]) HC1.out ?_
     intro w4 hr hg
     rw[yad (HC68.out.trans HZ68.out.symm)]at hr
     have hbx:=below_own ((Below.refl w3.heap.size w3).alloc (Nat.le_refl _) (.cells ZT.toArray 64)) hg (fun k hk=>by cases hk;exact Nat.le_refl _)
     have HB4:=yh (yaa HB3.out hbx)
     have HR4:=yh (HR3.out.below hbx)
     have HX4:=yh (HAt.out _ _ hr)
     clear hbx
     clear hr hg)
  | ((with_reducible show wpList _ _ _ (⟨_,.load 62 (.tmp 13),_,_,_,_⟩::_) _ _);refine yac rfl 62 (.tmp 13) rfl w3.heap.size 36 (rfl) H _ ((by have:=HX4.out;rwa[Nat.zero_add]at this)) Tryz.underlying62 rfl (by rw[yas,HH32.out]) ?_)
  | (
     with_reducible show wpList _ _ _ (⟨_,.store 62 (.tmp 2) _,_,_,_,_⟩::_) _ _
     refine yab rfl 62 (.tmp 2) (.tmp 14) rfl w.heap.size 0 H ZH _ rfl rfl (HR4.out) (by have:=HZ32.out;have:=HH32.out;omega) (by rw[yas,HH32.out]) HH1.out ?_
     intro w9 hr hg
     rw[yad (HH32.out.trans HZ32.out.symm)]at hr
     have HS9:=yh hr
     have HB9:=yh (below_own HB4.out hg (fun k hk=>by cases hk;exact Nat.le_refl _))
     clear hr hg))
 refine bodyPost_ret (results_cell_row rfl _ _ w.heap.size 62 H.toArray (0,0) _ rfl HS9.out Tryz.underlying62 rfl (by rw[yas];simp[HH32.out])) rfl ⟨rfl,HB9.out⟩
theorem LogAt.head {w:World}{base B:Nat}{v dv:Value}{rs:List Rp}(h:LogAt w base B v dv rs):
 Calls Tryz.prog 129 #[.pointer (some ⟨B,0,none⟩)] w fun e w'=>e=.returned (.agg (bRow (Od.head rs)))∧Below w.heap.size w w':=by
 have hl:=h.len
 match hn:rs.length with
 | 0=>
   have e:=List.length_eq_zero_iff.1 hn
   subst e
   exact head19 _ 0 Rp.zero Rp.yal 4 w (fun W hW=>(h.below hW).lenC) (by omega) (fun W hW=>(h.below hW).at_no (0-1) (.inl (by omega)))
 | n+1=>
   rw[(Od.ydb hn).1]
   refine head19 _ (n+1:Nat) _ (h.fits _ (List.getElem_mem (by omega))) 0 w (fun W hW=>by have:=(h.below hW).lenC;rw[hn]at this;exact this) (by omega) (fun W hW=>?_)
   have:=(h.below hW).at_yes n (by omega)
   rwa[show ((n+1:Nat):Int)-1=(n:Int) by omega]
end
section
open Go.RowKit
theorem ym6 (w:World):Calls Tryz.prog 157 #[] w fun e w'=>e=.returned (.tuple #[.int .i64 (-1),.int .i64 0])∧w=w':=by
 go_enter Tryz.func157,Tryz.ntmps157
 go_wp2_with fail
 go_ret2
 exact⟨rfl,rfl⟩
theorem yhj (B:Nat)(kind:Int)(body:ByteArray)(w:World)(hk:kind≠1):Calls Tryz.prog 127 #[.pointer (some ⟨B,0,none⟩),.int .i64 kind,.string body] w fun e w'=>e=.returned (.func (.func 157) #[] #[])∧Below w.heap.size w w':=by
 have d1:(kind != 1)=true:=by simpa using hk
 have HB:=yh (((Below.refl w.heap.size w).alloc (Nat.le_refl _) (.cells #[.pointer (some ⟨B,0,none⟩)] 76)).alloc (by simp) (.cells #[.string body] 9))
 clear hk
 go_enter Tryz.func127,Tryz.ntmps127
 go_wp2_with fail
 go_ret
 exact⟨rfl,HB.out⟩
theorem yf5 (B:Nat)(body:ByteArray)(w:World):Calls Tryz.prog 127 #[.pointer (some ⟨B,0,none⟩),.int .i64 1,.string body] w fun e w'=>e=.returned (.func (.func 158) #[] #[.pointer (some ⟨w.heap.size+1,0,none⟩),.pointer (some ⟨w.heap.size,0,none⟩)])∧Below w.heap.size w w'∧Row w' w.heap.size 76 [.pointer (some ⟨B,0,none⟩)]∧Row w' (w.heap.size+1) 9 [.string body]:=by
 have hb:=(Below.refl w.heap.size w).alloc (Nat.le_refl _) (.cells #[.pointer (some ⟨B,0,none⟩)] 76)
 have HB:=yh (hb.alloc (by simp) (.cells #[.string body] 9))
 have hr1:=(Row.new w 76 [.pointer (some ⟨B,0,none⟩)])
 have HR1:=yh (hr1.below ((Below.refl _ _).alloc (Nat.le_refl _) (.cells #[.string body] 9)))
 have hr2:=Row.new (w.alloc (.cells #[.pointer (some ⟨B,0,none⟩)] 76)) 9 [.string body]
 rw[show (w.alloc (.cells #[.pointer (some ⟨B,0,none⟩)] 76)).heap.size=w.heap.size+1 by simp]at hr2
 have HR2:=yh hr2
 clear hb hr1 hr2
 go_enter Tryz.func127,Tryz.ntmps127
 go_wp2_with fail
 go_ret
 exact⟨rfl,HB.out,HR1.out,HR2.out⟩
theorem yf6 {w:World}{base B gb gl:Nat}{v dv:Value}{rs:List Rp}(h:LogAt w base B v dv rs)(body:ByteArray)(hs:body.size≤140737488351232)(hb:Row w gb 9 [.string body])(hl:Row w gl 76 [.pointer (some ⟨B,0,none⟩)])(hT:Tab w):
 Calls Tryz.prog 158 #[.pointer (some ⟨gb,0,none⟩),.pointer (some ⟨gl,0,none⟩)] w fun e w'=>e=.returned (.tuple #[.int .i64 (Od.ask rs 1 body).1,.int .i64 (Od.ask rs 1 body).2])∧Below w.heap.size w w':=by
 have RD:Hid (∀W,Calls Tryz.prog 159 #[.string body] W fun e w'=>ReadEnds (Tx.read body.data.toList) e∧Below W.heap.size W w'):=yh (fun W=>yp6 body W (by omega))
 have SG:Hid (∀(t:Tx),t.Ok→∀W,Below w.heap.size w W→Calls Tryz.prog 160 #[.agg t.cells.toArray] W fun e w'=>e=.returned (.int .i64 t.signedE)∧Below W.heap.size W w'):=yh (fun t ht W hW=>yk7 t ht W (hT.below hW hT.pos))
 have cb:=rowX hb
 have HH:=yh h
 have HL:=yh hl
 have hzx :∀W:World,(zeroValue 81).run Tryz.prog W=.ok (.agg Tx.none.cells.toArray) W:=yk2
 have HX72:=yh (Tx.yag Tx.yb1)
 have HX1:=yh (Tx.yan Tx.yb1)
 obtain⟨ZX,hZX⟩:=yx (Tx.none.cells)
 rw[hZX]at hzx HX72 HX1
 have HZX:=yh hZX
 clear hZX
 clear h hb hl hT hs
 go_enter Tryz.func158,Tryz.ntmps158
 go_wp2_with fail
 refine(RD.out _).mono ?_
 rintro _ w2 ⟨hre,hb2⟩
 have HB2:=yh hb2
 clear hb2 cb RD
 cases hR:Tx.read body.data.toList with
 | none=>
   rw[hR]at hre
   obtain⟨n,hn,rfl⟩:=hre
   have HA:Hid (Od.ask rs 1 body=(-1,6)):=yh (by unfold Od.ask;rw[if_pos rfl,hR])
   have HPv:Hid (Tx.pairV (Tx.none,n)=.tuple #[.agg ZX.toArray,.int .i64 n]):=yh (by rw[←HZX.out];rfl)
   rw[HPv.out]
   clear hR
   go_wp2_with (first
    | (
       with_reducible show wpList _ _ _ (⟨_,.store 81 (.tmp 4) _,_,_,_,_⟩::_) _ _
       refine yab rfl 81 (.tmp 4) (.tmp 9) rfl w2.heap.size 0 ZX ZX _ rfl rfl (Row.new w2 81 ZX) (by have:=HX72.out;have:=HX72.out;omega) (by rw[yam,HX72.out]) HX1.out ?_
       intro w3 hr hg
       rw[yad (HX72.out.trans HX72.out.symm)]at hr
       have hbx:=below_own ((Below.refl w2.heap.size w2).alloc (Nat.le_refl _) (.cells ZX.toArray 81)) hg (fun k hk=>by cases hk;exact Nat.le_refl _)
       have HB3:=yh (yaa HB2.out hbx)
       have HT3:=yh hr
       clear hbx
       clear hr hg))
   go_ret2
   exact⟨by rw[HA.out];rfl,HB3.out⟩
 | some t=>
   rw[hR]at hre
   have hre':_=_:=hre
   subst hre'
   have hto:=Tx.ycv hR
   have hfr:=Tx.ycq hto.2
   have HT72:=yh (Tx.yag hto.1)
   have HT1:=yh (Tx.yan hto.1)
   have SGt:=yh (SG.out t hto.1)
   have HBt:Hid (∀(W:World) (g:Nat),Row W g 81 t.cells→W.cell? ⟨g,0,none⟩=some (.int .i64 t.frm)∧W.cell? ⟨g,1,none⟩=some (.int .i64 t.nonce)):=yh (fun W g h=>by
    have hl:=Tx.yag hto.1
    exact⟨h.cell 0 (by omega),h.cell 1 (by omega)⟩)
   have HPv:Hid (Tx.pairV (t,0)=.tuple #[.agg t.cells.toArray,.int .i64 0]):=yh rfl
   rw[HPv.out]
   have hask:Od.ask rs 1 body=if t.signedE=0 then (if t.nonce=(Od.cnt rs t.frm:Int) then (t.frm,0) else (-1,22)) else (-1,21):=by unfold Od.ask;rw[if_pos rfl,hR]
   obtain⟨fr,hfre⟩ :∃fr:Nat,t.frm=fr:=⟨t.frm.toNat,by omega⟩
   have hf64:fr<64:=by omega
   have hf0:(0:Int)≤(fr:Int):=by omega
   have hf1:(fr:Int)<64:=by omega
   rw[hfre]at HBt hask
   obtain⟨CT,hCT⟩:=yx (t.cells)
   rw[hCT]at HT72 HT1 SGt HBt ⊢
   obtain⟨sg,hsg⟩:=yx (t.signedE)
   rw[hsg]at SGt hask
   obtain⟨no,hno⟩:=yx (t.nonce)
   rw[hno]at HBt hask
   obtain⟨nn,hnn⟩ :∃nn:Int,(Od.cnt rs (fr:Int):Int)=nn:=⟨_,rfl⟩
   rw[hnn]at hask
   have HRd:Hid (∀W,Below w.heap.size w W→W.cell? ⟨gl,0,none⟩=some (.pointer (some ⟨B,0,none⟩))∧W.cell? ⟨B,1+fr,none⟩=some (.int .i64 nn)):=yh (fun W hW=>⟨rowX (HL.out.below hW),by rw[←hnn];exact(HH.out.below hW).cN fr hf64⟩)
   have HAsk:=yh hask
   clear hR hto hfr hfre hCT hsg hno hnn hask hf64
   by_cases hs0:sg=0
   rotate_left
   · have ds:(sg != 0)=true:=by simpa using hs0
     have HA:Hid (Od.ask rs 1 body=(-1,21)):=yh (by rw[HAsk.out,if_neg hs0])
     clear hs0
     go_wp2_with (first
      | (
         with_reducible show wpList _ _ _ (⟨_,.store 81 (.tmp 4) _,_,_,_,_⟩::_) _ _
         refine yab rfl 81 (.tmp 4) (.tmp 9) rfl w2.heap.size 0 CT ZX _ rfl rfl (Row.new w2 81 ZX) (by have:=HX72.out;have:=HT72.out;omega) (by rw[yam,HT72.out]) HT1.out ?_
         intro w3 hr hg
         rw[yad (HT72.out.trans HX72.out.symm)]at hr
         have hbx:=below_own ((Below.refl w2.heap.size w2).alloc (Nat.le_refl _) (.cells ZX.toArray 81)) hg (fun k hk=>by cases hk;exact Nat.le_refl _)
         have HB3:=yh (yaa HB2.out hbx)
         have HT3:=yh hr
         clear hbx
         clear hr hg)
      | ((with_reducible show wpList _ _ _ (⟨_,.load 81 (.tmp 4),_,_,_,_⟩::_) _ _);refine yac rfl 81 (.tmp 4) rfl w2.heap.size 0 (rfl) CT _ (yah HT3.out) Tryz.underlying81 rfl (by rw[yam,HT72.out]) ?_))
     refine(SGt.out _ HB3.out).mono ?_
     rintro _ w4 ⟨rfl,hb4⟩
     have HB4:=yh (yaa HB3.out hb4)
     clear hb4
     go_wp2_with fail
     go_ret2
     exact⟨by rw[HA.out];rfl,HB4.out⟩
   · subst hs0
     by_cases hnq:no=nn
     · have HA:Hid (Od.ask rs 1 body=((fr:Int),0)):=yh (by rw[HAsk.out,if_pos rfl,if_pos hnq])
       have dn:(no != nn)=false:=by simpa using hnq
       clear hnq
       go_wp2_with (first
        | (
           with_reducible show wpList _ _ _ (⟨_,.store 81 (.tmp 4) _,_,_,_,_⟩::_) _ _
           refine yab rfl 81 (.tmp 4) (.tmp 9) rfl w2.heap.size 0 CT ZX _ rfl rfl (Row.new w2 81 ZX) (by have:=HX72.out;have:=HT72.out;omega) (by rw[yam,HT72.out]) HT1.out ?_
           intro w3 hr hg
           rw[yad (HT72.out.trans HX72.out.symm)]at hr
           have hbx:=below_own ((Below.refl w2.heap.size w2).alloc (Nat.le_refl _) (.cells ZX.toArray 81)) hg (fun k hk=>by cases hk;exact Nat.le_refl _)
           have HB3:=yh (yaa HB2.out hbx)
           have HT3:=yh hr
           clear hbx
           clear hr hg)
        | ((with_reducible show wpList _ _ _ (⟨_,.load 81 (.tmp 4),_,_,_,_⟩::_) _ _);refine yac rfl 81 (.tmp 4) rfl w2.heap.size 0 (rfl) CT _ (yah HT3.out) Tryz.underlying81 rfl (by rw[yam,HT72.out]) ?_))
       refine(SGt.out _ HB3.out).mono ?_
       rintro _ w4 ⟨rfl,hb4⟩
       have HB4:=yh (yaa HB3.out hb4)
       have HT4:=yh (HT3.out.below hb4)
       clear hb4
       go_wp2_with fail
       refine wp_region_noPanic ?_
       refine wp_region_held_drew (S:=fun w'=>Below w4.heap.size w4 w') (by kernel_rfl) ((Below.refl _ _).drew) (fun gH=>?_)
       generalize w4.drew=wq at *
       refine yg 0 (.pointer (some ⟨w2.heap.size,1,none⟩)) rfl gH ?_
       refine yk 1 (.int .i64 no) rfl (fun w' hSw=>by have hq:=hSw;have hd:=(HBt.out _ _ (HT4.out.below hq)).2;go_simp) gH ?_
       refine yk 2 (.pointer (some ⟨B,0,none⟩)) rfl (fun w' hSw=>by have hq:=hSw;have hd:=(HRd.out _ (yaa HB4.out hq)).1;go_simp) gH ?_
       simp only[Act.put,Ya,Yb,Yc,Yd,Ye,Yf]
       refine yg 3 (.pointer (some ⟨w2.heap.size,0,none⟩)) rfl gH ?_
       refine yk 4 (.int .i64 fr) rfl (fun w' hSw=>by have hq:=hSw;have hd:=(HBt.out _ _ (HT4.out.below hq)).1;go_simp) gH ?_
       refine yg 5 (.pointer (some ⟨B,0,none⟩)) rfl gH ?_
       simp only[Act.put,Ya,Yb,Yc,Yd,Ye,Yf]
       refine yg 6 (.pointer (some ⟨B,1,none⟩)) rfl gH ?_
       refine yg 7 (.pointer (some ⟨B,(1+fr),none⟩)) rfl gH ?_
       refine yk 8 (.int .i64 nn) rfl (fun w' hSw=>by have hq:=hSw;have hd:=(HRd.out _ (yaa HB4.out hq)).2;go_simp) gH ?_
       simp only[Act.put,Ya,Yb,Yc,Yd,Ye,Yf]
       refine yg 9 (.bool false) rfl gH ?_
       refine yg 10 (.bool false) rfl gH ?_
       refine wpAnyH_done (by kernel_rfl) ?_ _
       refine NoPanic.normal ?_
       have HB5:=yh (yaa HB4.out gH)
       obtain⟨cf,_⟩:=HBt.out _ _ (HT4.out.below gH)
       clear gH
       go_wp2_with fail
       go_ret2
       exact⟨by rw[HA.out];rfl,HB5.out⟩
     · have HA:Hid (Od.ask rs 1 body=(-1,22)):=yh (by rw[HAsk.out,if_pos rfl,if_neg hnq])
       have dn:(no != nn)=true:=by simpa using hnq
       clear hnq
       go_wp2_with (first
        | (
           with_reducible show wpList _ _ _ (⟨_,.store 81 (.tmp 4) _,_,_,_,_⟩::_) _ _
           refine yab rfl 81 (.tmp 4) (.tmp 9) rfl w2.heap.size 0 CT ZX _ rfl rfl (Row.new w2 81 ZX) (by have:=HX72.out;have:=HT72.out;omega) (by rw[yam,HT72.out]) HT1.out ?_
           intro w3 hr hg
           rw[yad (HT72.out.trans HX72.out.symm)]at hr
           have hbx:=below_own ((Below.refl w2.heap.size w2).alloc (Nat.le_refl _) (.cells ZX.toArray 81)) hg (fun k hk=>by cases hk;exact Nat.le_refl _)
           have HB3:=yh (yaa HB2.out hbx)
           have HT3:=yh hr
           clear hbx
           clear hr hg)
        | ((with_reducible show wpList _ _ _ (⟨_,.load 81 (.tmp 4),_,_,_,_⟩::_) _ _);refine yac rfl 81 (.tmp 4) rfl w2.heap.size 0 (rfl) CT _ (yah HT3.out) Tryz.underlying81 rfl (by rw[yam,HT72.out]) ?_))
       refine(SGt.out _ HB3.out).mono ?_
       rintro _ w4 ⟨rfl,hb4⟩
       have HB4:=yh (yaa HB3.out hb4)
       have HT4:=yh (HT3.out.below hb4)
       clear hb4
       go_wp2_with fail
       refine wp_region_noPanic ?_
       refine wp_region_held_drew (S:=fun w'=>Below w4.heap.size w4 w') (by kernel_rfl) ((Below.refl _ _).drew) (fun gH=>?_)
       generalize w4.drew=wq at *
       refine yg 0 (.pointer (some ⟨w2.heap.size,1,none⟩)) rfl gH ?_
       simp only[Act.put,Ya,Yb,Yc,Yd,Ye,Yf]
       refine yk 1 (.int .i64 no) rfl (fun w' hSw=>by have hq:=hSw;have hd:=(HBt.out _ _ (HT4.out.below hq)).2;go_simp) gH ?_
       refine yk 2 (.pointer (some ⟨B,0,none⟩)) rfl (fun w' hSw=>by have hq:=hSw;have hd:=(HRd.out _ (yaa HB4.out hq)).1;go_simp) gH ?_
       refine yg 3 (.pointer (some ⟨w2.heap.size,0,none⟩)) rfl gH ?_
       simp only[Act.put,Ya,Yb,Yc,Yd,Ye,Yf]
       refine yk 4 (.int .i64 fr) rfl (fun w' hSw=>by have hq:=hSw;have hd:=(HBt.out _ _ (HT4.out.below hq)).1;go_simp) gH ?_
       refine yg 5 (.pointer (some ⟨B,0,none⟩)) rfl gH ?_
       refine yg 6 (.pointer (some ⟨B,1,none⟩)) rfl gH ?_
       simp only[Act.put,Ya,Yb,Yc,Yd,Ye,Yf]
       refine yg 7 (.pointer (some ⟨B,(1+fr),none⟩)) rfl gH ?_
       refine yk 8 (.int .i64 nn) rfl (fun w' hSw=>by have hq:=hSw;have hd:=(HRd.out _ (yaa HB4.out hq)).2;go_simp) gH ?_
       refine yg 9 (.bool true) rfl gH ?_
       simp only[Act.put,Ya,Yb,Yc,Yd,Ye,Yf]
       refine yg 10 (.bool true) rfl gH ?_
       refine wpAnyH_done (by kernel_rfl) ?_ _
       refine NoPanic.normal ?_
       have HB5:=yh (yaa HB4.out gH)
       clear gH
       go_wp2_with fail
       go_ret2
       exact⟨by rw[HA.out];rfl,HB5.out⟩
end
end Go.Proofs.YtalfnadejpmjnaaGreatDoor
