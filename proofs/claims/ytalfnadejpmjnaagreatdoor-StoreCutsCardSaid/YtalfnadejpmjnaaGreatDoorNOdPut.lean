/- A part. -/
import Derived.Test.YtalfnadejpmjnaaGreatDoorNOdB
set_option linter.unusedVariables false
set_option linter.unusedSimpArgs false
set_option maxRecDepth 100000
set_option maxHeartbeats 25600000
namespace Go.Proofs.YtalfnadejpmjnaaGreatDoor
open Go.RowKit
structure LogR (w:World)(base B:Nat)(v dv:Value)(N:List Int)(rs:List Rp)(ds:List Int):Prop where
 row:Row w B LT19 (v::(Is N ++ [dv]))
 own:OwnL w base 64 68 Rp.cells v rs
 dow:OwnL w base 3 1 ic dv ds
 lo:base≤B
 nlen:N.length=64
section
variable {w w' : World} {base B : Nat} {v dv : Value} {N : List Int} {rs : List Rp} {ds : List Int}
theorem LogAt.raw (h:LogAt w base B v dv rs):LogR w base B v dv (Od.nexts rs) rs (Od.del rs):=⟨h.row,h.own,h.dow,h.lo,Od.ycp rs⟩
theorem LogR.chg {S:Nat→Prop}(h:LogR w base B v dv N rs ds)(hc:Chg S w w')(hS :∀k,LS B v dv k→¬S k):LogR w' base B v dv N rs ds:=
 ⟨hc.row h.row (hS _ (.inl rfl)),h.own.chg hc (fun k hk=>hS k (.inr (.inl hk))),h.dow.chg hc (fun k hk=>hS k (.inr (.inr hk))),h.lo,h.nlen⟩
theorem LogR.lt (h:LogR w base B v dv N rs ds) :∀k,LS B v dv k→base≤k∧k<w.heap.size:=by
 rintro k (rfl|hk|hk)
 · exact⟨h.lo,h.row.lt⟩
 · exact h.own.lt k hk
 · exact h.dow.lt k hk
theorem LogR.isl (h:LogR w base B v dv N rs ds):(Is N).length=64:=by unfold Is;rw[List.length_map,h.nlen]
theorem LogR.c0 (h:LogR w base B v dv N rs ds):w.cell? ⟨B,0,none⟩=some v:=h.row.cell 0 (by simp)
theorem LogR.c65 (h:LogR w base B v dv N rs ds):w.cell? ⟨B,65,none⟩=some dv:=by
 have hl:=h.isl
 have h1:=h.row.cell 65 (by simp[hl])
 rw[h1]
 congr 1
 rw[List.getElem_cons_succ,List.getElem_append_right (by rw[hl];exact Nat.le_refl _)]
 simp[hl]
theorem LogR.cN (h:LogR w base B v dv N rs ds)(i:Nat)(hi:i<64):w.cell? ⟨B,1+i,none⟩=some (.int .i64 (N.getD i 0)):=by
 have hl:=h.isl
 rw[show 1+i=i+1 by omega]
 have h1:=h.row.cell (i+1) (by simp[hl];omega)
 rw[h1]
 congr 1
 simp only[List.getElem_cons_succ]
 rw[List.getElem_append_left (by rw[hl];exact hi)]
 unfold Is
 rw[List.getElem_map,List.getD_eq_getElem?_getD,List.getElem?_eq_getElem (by rw[h.nlen];exact hi)]
 rfl
theorem LogR.vne (h:LogR w base B v dv N rs ds):v.ownBlock≠some B∧dv.ownBlock≠some B:=⟨h.own.ne_block h.row (by decide),h.dow.ne_block h.row (by decide)⟩
theorem LogR.apart (h:LogR w base B v dv N rs ds) :∀k,v.ownBlock=some k→dv.ownBlock≠some k:=h.own.ne_own h.dow (by decide)
end
structure LgW (w W:World)(base B:Nat)(v0 dv0 v dv:Value)(N:List Int)(rs:List Rp)(ds:List Int)(g:Nat)(C:List Value):Prop where
 pat:LogR W base B v dv N rs ds
 chg:Chg (LS B v0 dv0) w W
 own :∀k,LS B v dv k→LS B v0 dv0 k∨w.heap.size≤k
 row:Row W g 64 C
 out :¬LS B v dv g∧w.heap.size≤g
section
variable {w W W' W3 W4 : World} {base B g : Nat} {v0 dv0 v dv v' dv' : Value} {N : List Int} {rs : List Rp} {ds : List Int} {C : List Value}
theorem LgW.step {S:Nat→Prop}(h:LgW w W base B v0 dv0 v dv N rs ds g C)(hc:Chg S W W')(hS :∀k,LS B v dv k→¬S k)(hg :¬S g)(hSw :∀k,S k→W.heap.size≤k):LgW w W' base B v0 dv0 v dv N rs ds g C:=
 ⟨h.pat.chg hc hS,h.chg.trans hc (fun i hi=>.inr (Nat.le_trans h.chg.size (hSw i hi))),h.own,hc.row h.row hg,h.out⟩
theorem LgW.below (h:LgW w W base B v0 dv0 v dv N rs ds g C)(hb:Below W.heap.size W W'):LgW w W' base B v0 dv0 v dv N rs ds g C:=
 h.step (S:=fun _=>False) (Chg.ya6 hb) (fun _ _ q=>q) (fun q=>q) (fun _ q=>q.elim)
theorem LgW.setD (h:LgW w W base B v0 dv0 v dv N rs ds g C){ds':List Int}(ho:OwnL W3 base 3 1 ic dv' ds')(hc:Chg (fun k=>dv.ownBlock=some k) W W3)(hk :∀k,dv'.ownBlock=some k→dv.ownBlock=some k∨W.heap.size≤k)
 (hr:Row W4 B LT19 ((v::(Is N ++ [dv])).set 65 dv')) (hg:W3.grownBy W4 (some B)):LgW w W4 base B v0 dv0 v dv' N rs ds' g C:=by
 have hl:=h.pat.isl
 have hS:Chg (fun k=>k=B∨dv.ownBlock=some k) W W4:=(hc.mono (S2:=fun k=>k=B∨dv.ownBlock=some k) (fun i hi=>.inr hi)).trans (Chg.yat (S:=fun k=>k=B∨dv.ownBlock=some k) hg (fun k hk=>by cases hk;exact .inl (.inl rfl))) (fun i hi=>.inl hi)
 have hB3:Row W3 B LT19 (v::(Is N ++ [dv])):=hc.row h.pat.row h.pat.vne.2
 have e:(v::(Is N ++ [dv])).set 65 dv'=v::(Is N ++ [dv']):=by
  rw[List.set_cons_succ,List.set_append_right _ _ (by rw[hl];exact Nat.le_refl _),hl]
  rfl
 rw[e]at hr
 refine⟨⟨hr,h.pat.own.chg hS (fun k hk q=>?_),ho.kept hg (.inr (ho.ne_block hB3 (by decide))),h.pat.lo,h.pat.nlen⟩,⟨hS.os.trans h.chg.os,hS.tape.trans h.chg.tape,hS.output.trans h.chg.output,Nat.le_trans h.chg.size hS.size,fun i hi hn=>?_⟩,fun k hk'=>?_,hS.row h.row (fun q=>?_),⟨fun q=>?_,h.out.2⟩⟩
 · rcases q with q|q
   · exact h.pat.vne.1 (q ▸ hk)
   · exact h.pat.apart k hk q
 · refine(hS.block i (Nat.lt_of_lt_of_le hi h.chg.size) (fun q=>?_)).trans (h.chg.block i hi hn)
   have:LS B v dv i:=by rcases q with q|q;exact .inl q;exact .inr (.inr q)
   rcases h.own i this with q|q
   · exact hn q
   · omega
 · rcases hk' with q|q|q
   · exact h.own k (.inl q)
   · exact h.own k (.inr (.inl q))
   · rcases hk k q with q|q
     · exact h.own k (.inr (.inr q))
     · exact .inr (Nat.le_trans h.chg.size q)
 · rcases q with q|q
   · exact h.out.1 (.inl q)
   · exact h.out.1 (.inr (.inr q))
 · rcases q with q|q|q
   · exact h.out.1 (.inl q)
   · exact h.out.1 (.inr (.inl q))
   · rcases hk g q with q|q
     · exact h.out.1 (.inr (.inr q))
     · have:=h.row.lt;omega
theorem LgW.setV (h:LgW w W base B v0 dv0 v dv N rs ds g C){rs':List Rp}(ho:OwnL W3 base 64 68 Rp.cells v' rs')(hc:Chg (fun k=>v.ownBlock=some k) W W3)(hk :∀k,v'.ownBlock=some k→v.ownBlock=some k∨W.heap.size≤k)
 (hr:Row W4 B LT19 ((v::(Is N ++ [dv])).set 0 v')) (hg:W3.grownBy W4 (some B)):LgW w W4 base B v0 dv0 v' dv N rs' ds g C:=by
 have hS:Chg (fun k=>k=B∨v.ownBlock=some k) W W4:=(hc.mono (S2:=fun k=>k=B∨v.ownBlock=some k) (fun i hi=>.inr hi)).trans (Chg.yat (S:=fun k=>k=B∨v.ownBlock=some k) hg (fun k hk=>by cases hk;exact .inl (.inl rfl))) (fun i hi=>.inl hi)
 have hB3:Row W3 B LT19 (v::(Is N ++ [dv])):=hc.row h.pat.row h.pat.vne.1
 refine⟨⟨hr,ho.kept hg (.inr (ho.ne_block hB3 (by decide))),h.pat.dow.chg hS (fun k hk q=>?_),h.pat.lo,h.pat.nlen⟩,⟨hS.os.trans h.chg.os,hS.tape.trans h.chg.tape,hS.output.trans h.chg.output,Nat.le_trans h.chg.size hS.size,fun i hi hn=>?_⟩,fun k hk'=>?_,hS.row h.row (fun q=>?_),⟨fun q=>?_,h.out.2⟩⟩
 · rcases q with q|q
   · exact h.pat.vne.2 (q ▸ hk)
   · exact h.pat.apart k q hk
 · refine(hS.block i (Nat.lt_of_lt_of_le hi h.chg.size) (fun q=>?_)).trans (h.chg.block i hi hn)
   have:LS B v dv i:=by rcases q with q|q;exact .inl q;exact .inr (.inl q)
   rcases h.own i this with q|q
   · exact hn q
   · omega
 · rcases hk' with q|q|q
   · exact h.own k (.inl q)
   · rcases hk k q with q|q
     · exact h.own k (.inr (.inl q))
     · exact .inr (Nat.le_trans h.chg.size q)
   · exact h.own k (.inr (.inr q))
 · rcases q with q|q
   · exact h.out.1 (.inl q)
   · exact h.out.1 (.inr (.inl q))
 · rcases q with q|q|q
   · exact h.out.1 (.inl q)
   · rcases hk g q with q|q
     · exact h.out.1 (.inr (.inl q))
     · have:=h.row.lt;omega
   · exact h.out.1 (.inr (.inr q))
theorem LgW.setN (h:LgW w W base B v0 dv0 v dv N rs ds g C)(i:Nat)(hi:i<64)(z:Int)(hr:Row W' B LT19 ((v::(Is N ++ [dv])).set (1+i) (.int .i64 z)))(hg:W.grownBy W' (some B)):LgW w W' base B v0 dv0 v dv (N.set i z) rs ds g C:=by
 have hl:=h.pat.isl
 have e:(v::(Is N ++ [dv])).set (1+i) (.int .i64 z)=v::(Is (N.set i z) ++ [dv]):=by
  rw[Nat.add_comm,List.set_cons_succ,List.set_append_left _ _ (by rw[hl];exact hi)]
  unfold Is
  rw[List.map_set]
 rw[e]at hr
 have hc:Chg (fun k=>k=B) W W':=Chg.yat hg (fun k hk=>by cases hk;exact .inl rfl)
 refine⟨⟨hr,h.pat.own.chg hc (fun k hk q=>h.pat.vne.1 (q ▸ hk)),h.pat.dow.chg hc (fun k hk q=>h.pat.vne.2 (q ▸ hk)),h.pat.lo,by rw[List.length_set];exact h.pat.nlen⟩,⟨hc.os.trans h.chg.os,hc.tape.trans h.chg.tape,hc.output.trans h.chg.output,Nat.le_trans h.chg.size hc.size,fun j hj hn=>?_⟩,h.own,hc.row h.row (fun q=>h.out.1 (.inl q)),h.out⟩
 refine(hc.block j (Nat.lt_of_lt_of_le hj h.chg.size) (fun q=>?_)).trans (h.chg.block j hj hn)
 rcases h.own j (.inl q)with q|q
 · exact hn q
 · omega
end
theorem yju:(Tryz.prog.info? 64).map (fun i=>(i.zero,i.size,i.bytes))=some (some (.agg Rp.zero.cells.toArray),68,104):=by kernel_rfl
theorem yod:(Tryz.prog.info? 3).map (fun i=>(i.zero,i.size,i.bytes))=some (some (.int .i64 0),1,8):=by kernel_rfl
theorem yuz (ZA:Array Value)(CT:List Value)(h:CT.length=68):Instr.fill (fun i=>some (i*68,68)) ((Array.range (1*68)).map (ZA[· % ZA.size]!)) [(0,.agg CT.toArray)]=some CT.toArray:=by
 have e:((Array.range (1*68)).map (ZA[· % ZA.size]!))=((List.range 68).map (ZA[· % ZA.size]!)).toArray:=by rw[←Array.toList_inj];simp
 rw[e,ya4 _ _ 0 _ CT _ 0 68 rfl (by simp[Value.cells]) h (by simp),ydt]
 simp[List.drop_of_length_le]
theorem yb6 {o:Oper}{a:Act}{w:World}{K:Act→World→Prop}{Q:Exit→Act→World→Prop}(x:Operand)(ho:o.op=.buildSlice 29 1 #[(0,x)])(C:List Value)(hC:C.length=68)(hx:a.eval x=.agg C.toArray)
 (h:K (a.put o.dst (.slice (some ⟨w.heap.size,0,none⟩) 1 1)) (w.alloc (.cells C.toArray 64))):o.wp Tryz.prog a w K Q:=by
 obtain⟨i0,hi,h2⟩:=Option.map_eq_some_iff.1 yju
 simp only[Prod.mk.injEq]at h2
 obtain⟨hz,hsz,hby⟩:=h2
 have hf:=yuz Rp.zero.cells.toArray C hC
 refine wp_buildSlice 29 64 1 _ ho C.toArray i0 (.agg Rp.zero.cells.toArray) Tryz.underlying29 hi hz (by rw[hsz];decide) (by rw[hsz];decide) ?_ h
 rw[hsz]
 simpa[Value.cells,hx] using hf
theorem ydx {o:Oper}{a:Act}{w:World}{K:Act→World→Prop}{Q:Exit→Act→World→Prop}(sl y:Operand)(ho:o.op=.call { callee:=.builtin .append,args:=#[sl,y],argTypes:=#[29,29] })
 (r:Rp) (hr:r.Fits) (gv:Nat) (hrow:Row w gv 64 r.cells) (base:Nat) (v:Value) (l:List Rp) (hown:OwnL w base 64 68 Rp.cells v l) (hbase:base≤w.heap.size) (hlen:l.length≤100000)
 (hs:a.eval sl=v) (hy:a.eval y=.slice (some ⟨gv,0,none⟩) 1 1)
 (H :∀v' w',OwnL w' base 64 68 Rp.cells v' (l ++ [r])→Chg (fun k=>v.ownBlock=some k) w w'→(∀k,v'.ownBlock=some k→v.ownBlock=some k∨w.heap.size≤k)→K (a.put o.dst v') w'):o.wp Tryz.prog a w K Q:=by
 obtain⟨i0,hi,h2⟩:=Option.map_eq_some_iff.1 yju
 simp only[Prod.mk.injEq]at h2
 obtain⟨hz,hsz,hby⟩:=h2
 have hc68:=Rp.yao hr.prev hr.hash
 have hz68:Rp.zero.cells.length=68:=Rp.yao rfl rfl
 refine ybx sl y 29 ho base 64 i0 (.agg Rp.zero.cells.toArray) 68 104 Tryz.underlying29 hi hz hsz hby (by simpa[Value.cells] using hz68) (by decide) v l.length (Rw.flat Rp.cells l) hs hown.own ⟨gv,0,none⟩ 1 1 r.cells hy (by rw[hc68]) (fun j u hu=>?_) (Rp.yan hr.prev hr.hash) (by decide) (by unfold maxLen;omega) (by omega) hbase (fun v' w' ho hg hat=>H v' w' (OwnL.pushed ho) ?_ ?_)
 · have:=yah hrow j u hu
   rw[Nat.zero_add]at this
   have hadd:(⟨gv,0,none⟩:Addr).add j=⟨gv,j,none⟩:=by unfold Addr.add;split <;> simp_all
   rw[hadd]
   exact this
 · exact Chg.yat (S:=fun k=>v.ownBlock=some k) hg (fun k hk=>.inl hk)
 · intro k hk
   rcases hat with q|q
   · exact .inl (q ▸ hk)
   · rw[q]at hk
     cases hk
     exact .inr (Nat.le_refl _)
theorem yo4 {o:Oper}{a:Act}{w:World}{K:Act→World→Prop}{Q:Exit→Act→World→Prop}(sl y:Operand)(ho:o.op=.call { callee:=.builtin .append,args:=#[sl,y],argTypes:=#[45,45] })
 (z:Int) (gv:Nat) (hrow:Row w gv 3 (ic z)) (base:Nat) (v:Value) (l:List Int) (hown:OwnL w base 3 1 ic v l) (hbase:base≤w.heap.size) (hlen:l.length≤100000)
 (hs:a.eval sl=v) (hy:a.eval y=.slice (some ⟨gv,0,none⟩) 1 1)
 (H :∀v' w',OwnL w' base 3 1 ic v' (l ++ [z])→Chg (fun k=>v.ownBlock=some k) w w'→(∀k,v'.ownBlock=some k→v.ownBlock=some k∨w.heap.size≤k)→K (a.put o.dst v') w'):o.wp Tryz.prog a w K Q:=by
 obtain⟨i0,hi,h2⟩:=Option.map_eq_some_iff.1 yod
 simp only[Prod.mk.injEq]at h2
 obtain⟨hz,hsz,hby⟩:=h2
 refine ybx sl y 45 ho base 3 i0 (.int .i64 0) 1 8 Tryz.underlying45 hi hz hsz hby rfl (by decide) v l.length (Rw.flat ic l) hs hown.own ⟨gv,0,none⟩ 1 1 (ic z) hy rfl (fun j u hu=>?_) (fun u hu=>by simp[ic]at hu;subst hu;rfl) (by decide) (by unfold maxLen;omega) (by omega) hbase (fun v' w' ho hg hat=>H v' w' (OwnL.pushed ho) ?_ ?_)
 · have:=yah hrow j u hu
   rw[Nat.zero_add]at this
   have hadd:(⟨gv,0,none⟩:Addr).add j=⟨gv,j,none⟩:=by unfold Addr.add;split <;> simp_all
   rw[hadd]
   exact this
 · exact Chg.yat (S:=fun k=>v.ownBlock=some k) hg (fun k hk=>.inl hk)
 · intro k hk
   rcases hat with q|q
   · exact .inl (q ▸ hk)
   · rw[q]at hk
     cases hk
     exact .inr (Nat.le_refl _)
theorem LgW.fin {w W:World}{base B g:Nat}{v0 dv0 v dv:Value}{rs:List Rp}{C:List Value}(h:LgW w W base B v0 dv0 v dv (Od.nexts rs) rs (Od.del rs) g C)(hg:Od.Good rs)(hl:rs.length≤1000):LTo w W base B v0 dv0 rs:=
 ⟨v,dv,⟨h.pat.row,h.pat.own,h.pat.dow,hg,hl,h.pat.lo⟩,h.chg,h.own⟩
theorem LogAt.put_nobody {w:World}{base B:Nat}{v dv:Value}{rs:List Rp}(h:LogAt w base B v dv rs)(r:Rp)(hr:r.Fits)(hg:Od.Good (rs ++ [r]))(hl:rs.length<1000)(hw:Od.by_ r = -1):
 Calls Tryz.prog 93 #[.pointer (some ⟨B,0,none⟩),.agg r.cells.toArray,.int .i64 (-1)] w fun e w'=>e=.returned (.tuple #[])∧LTo w w' base B v dv (rs ++ [r]):=by
 obtain⟨A,c,hvA⟩:=h.form
 subst hvA
 have hlen:=h.len
 have HC68:=yh (Rp.yao hr.prev hr.hash)
 have HRf:=yh hr
 have HG9:=yh hg
 have HL9:Hid ((rs ++ [r]).length≤1000):=yh (by rw[List.length_append,List.length_singleton];omega)
 have HDl:Hid ((Od.del rs).length≤100000):=yh (by have:=Od.yja rs;omega)
 have HRl:Hid (rs.length≤100000):=yh (by omega)
 have hBx:Hid (∀W g,Row W g 64 r.cells→W.cell? ⟨g,0,none⟩=some (.int .i64 r.index)):=yh (fun W g h=>(ydf h).1)
 have HCr:Hid (r.cells=r.cells):=yh rfl
 have hraw:=h.raw
 have hb0:=(Below.refl w.heap.size w).alloc (Nat.le_refl _) (.cells r.cells.toArray 64)
 have HT0:Hid (LgW w (w.alloc (.cells r.cells.toArray 64)) base B (.slice A rs.length c) dv (.slice A rs.length c) dv (Od.nexts rs) rs (Od.del rs) w.heap.size r.cells):=yh ⟨hraw.chg (S:=fun _=>False) (Chg.ya6 hb0) (fun _ _ q=>q),Chg.ya6 hb0,fun k hk=>.inl hk,Row.new w _ _,fun q=>by have:=(hraw.lt _ q).2;omega,Nat.le_refl _⟩
 have HN9:Hid (Od.nexts (rs ++ [r])=Od.nexts rs):=yh (Od.yn6 hw)
 obtain⟨v0,hv0⟩ :∃v0,v0=Value.slice A rs.length c:=⟨_,rfl⟩
 obtain⟨dv0,hdv0⟩ :∃dv0,dv0=dv:=⟨_,rfl⟩
 have HT0':Hid (LgW w (w.alloc (.cells r.cells.toArray 64)) base B v0 dv0 (.slice A rs.length c) dv (Od.nexts rs) rs (Od.del rs) w.heap.size r.cells):=by rw[hv0,hdv0];exact HT0
 clear HT0
 have HT0:=HT0'
 clear HT0'
 suffices Calls Tryz.prog 93 #[.pointer (some ⟨B,0,none⟩),.agg r.cells.toArray,.int .i64 (-1)] w fun e w'=>e=.returned (.tuple #[])∧LTo w w' base B v0 dv0 (rs ++ [r]) by
  rw[hv0,hdv0]at this
  exact this
 clear hv0 hdv0
 obtain⟨C,hC⟩:=yx (r.cells)
 rw[hC]at HC68 HT0 hBx ⊢
 replace HCr:=yh hC
 obtain⟨NN,hNN⟩:=yx (Od.nexts rs)
 rw[hNN]at HT0 HN9
 obtain⟨n,hn⟩:=yx (rs.length)
 rw[hn]at HT0
 obtain⟨gr,hgr⟩:=yx (w.heap.size)
 obtain⟨w1,hw1⟩:=yx (w.alloc (.cells C.toArray 64))
 rw[hgr,hw1]at HT0
 obtain⟨ri,hri⟩:=yx (r.index)
 have HD9:Hid (Od.del (rs ++ [r])=Od.del rs ++ [ri]):=yh (by rw[←hri];exact Od.ym3 hw)
 rw[hri]at hBx
 clear h hr hg hl hw hlen hraw hb0 hC hNN hn hri
 go_enter Tryz.func93,Tryz.ntmps93
 go_wp2_with fail
 try simp only[hw1,hgr]
 clear hw1 hgr
 have hT:=HT0.out.below (Below.refl _ _).drew
 refine wp_region_noPanic ?_
 refine wp_region_held_drew (S:=fun w'=>Row w' gr 64 C) (by kernel_rfl) (HT0.out.row) (fun gH=>?_)
 generalize w1.drew=wq at *
 refine yg 0 (.pointer (some ⟨B,0,none⟩)) rfl gH ?_
 refine yg 1 (.pointer (some ⟨B,0,none⟩)) rfl gH ?_
 refine yg 2 (.pointer (some ⟨B,0,none⟩)) rfl gH ?_
 simp only[Act.put,Ya,Yb,Yc,Yd,Ye,Yf]
 refine yg 3 (.pointer (some ⟨B,65,none⟩)) rfl gH ?_
 refine yg 5 (.pointer (some ⟨gr,0,none⟩)) rfl gH ?_
 refine yk 6 (.int .i64 ri) rfl (fun w' hSw=>by have hq:=hSw;have hd:=hBx.out _ _ hq;go_simp) gH ?_
 simp only[Act.put,Ya,Yb,Yc,Yd,Ye,Yf]
 refine yS 4 7 (by kernel_rfl) rfl rfl (fun K1 hK1=>?_) (fun K1 hK1=>?_)
 · skip
   try simp only[Act.put,Ya,Yb,Yc,Yd,Ye,Yf]
   rw[if_pos (by rfl)]
   have hcx:=hT.pat.c65
   go_simp
   refine hK1.out _ _ (gH) (fun gH=>?_)
   clear hK1 K1
   clear hcx
   refine yR 7 (by kernel_rfl) rfl (fun K1 hK1=>?_)
   try simp only[Act.put,Ya,Yb,Yc,Yd,Ye,Yf]
   go_simp
   have hnr:Row (wq.alloc (.cells (ic ri).toArray 3)) wq.heap.size 3 (ic ri):=Row.new wq 3 (ic ri)
   replace hT:=hT.below ((Below.refl wq.heap.size wq).alloc (Nat.le_refl _) (.cells (ic ri).toArray 3))
   have eH:=hT.row
   generalize hwb:wq.alloc (.cells (ic ri).toArray 3)=wb1 at *
   have hwb2:wq.alloc (.cells #[.int .i64 ri] 3)=wb1:=hwb
   rw[hwb2]
   clear hwb hwb2
   generalize wq.heap.size=gb at *
   refine hK1.out _ _ eH (fun gH=>?_)
   clear hK1 K1
   clear eH
   refine yR 8 (by kernel_rfl) rfl (fun K1 hK1=>?_)
   try simp only[Act.put,Ya,Yb,Yc,Yd,Ye,Yf]
   rw[if_pos (by rfl)]
   refine yo4 (.tmp 12) (.tmp 15) rfl ri gb hnr base dv (Od.del rs) hT.pat.dow (Nat.le_trans hT.pat.lo (Nat.le_of_lt hT.pat.row.lt)) HDl.out rfl rfl ?_
   intro u wi2 ho hc hk
   obtain⟨Ad,cd,hue,_,_⟩:=ho.form
   subst hue
   obtain⟨nd,hnd⟩:=yx ((Od.del rs ++ [ri]).length)
   rw[hnd]at ho hk ⊢
   clear hnd
   have eH:=hc.row gH (fun e=>hT.out.1 (.inr (.inr e)))
   have hrB:=hc.row hT.pat.row hT.pat.vne.2
   refine hK1.out _ _ eH (fun gH=>?_)
   clear hK1 K1
   clear eH
   refine yg 9 (.pointer (some ⟨B,0,none⟩)) rfl gH ?_
   refine yg 10 (.pointer (some ⟨B,65,none⟩)) rfl gH ?_
   simp only[Act.put,Ya,Yb,Yc,Yd,Ye,Yf]
   refine yR 11 (by kernel_rfl) rfl (fun K1 hK1=>?_)
   try simp only[Act.put,Ya,Yb,Yc,Yd,Ye,Yf]
   rw[if_pos (by rfl)]
   refine ybc 45 (.tmp 18) (.tmp 16) rfl B 65 110 (.slice A n c::(Is NN ++ [dv])) Ad nd cd rfl rfl hrB (by simp[hT.pat.isl]) (by kernel_rfl) ?_
   intro wt3 hr4 hg4
   have hU:=hT.setD ho hc hk hr4 hg4
   have eH:=hU.row
   refine hK1.out _ _ eH (fun gH=>?_)
   clear hK1 K1
   clear eH
   refine wpAnyH_done (by kernel_rfl) ?_ _
   refine NoPanic.normal ?_
   have HD:=yh hU
   clear gH hT hU hr4 hg4 ho hc hk hrB hnr
   go_wp2_with fail
   have hT:=HD.out.below (Below.refl _ _).drew
   refine wp_region_noPanic ?_
   refine wp_region_held_drew (S:=fun w'=>Row w' gr 64 C) (by kernel_rfl) (HD.out.row) (fun gH=>?_)
   generalize wt3.drew=wv at *
   refine yg 0 (.pointer (some ⟨B,0,none⟩)) rfl gH ?_
   refine yg 1 (.pointer (some ⟨B,0,none⟩)) rfl gH ?_
   simp only[Act.put,Ya,Yb,Yc,Yd,Ye,Yf]
   refine yg 2 (.pointer (some ⟨B,0,none⟩)) rfl gH ?_
   refine yg 3 (.pointer (some ⟨B,0,none⟩)) rfl gH ?_
   refine' yl 5 _ rfl (yieldsIf_load_mid (by rfl) _ _ rfl gr 0 rfl C _ (fun w' hSw=>yah hSw) Tryz.underlying64 rfl (by rw[yaf,HC68.out])) gH ?_
   simp only[Act.put,Ya,Yb,Yc,Yd,Ye,Yf]
   refine yS 4 6 (by kernel_rfl) rfl rfl (fun K1 hK1=>?_) (fun K1 hK1=>?_)
   · skip
     try simp only[Act.put,Ya,Yb,Yc,Yd,Ye,Yf]
     rw[if_pos (by rfl)]
     have hcx:=hT.pat.c0
     go_simp
     refine hK1.out _ _ (gH) (fun gH=>?_)
     clear hK1 K1
     clear hcx
     refine yR 6 (by kernel_rfl) rfl (fun K1 hK1=>?_)
     try simp only[Act.put,Ya,Yb,Yc,Yd,Ye,Yf]
     rw[if_pos (by rfl)]
     refine yb6 (.tmp 34) rfl C HC68.out rfl ?_
     have hnr:=Row.new wv 64 C
     replace hT:=hT.below ((Below.refl wv.heap.size wv).alloc (Nat.le_refl _) (.cells C.toArray 64))
     have eH:=hT.row
     generalize wv.alloc (.cells C.toArray 64)=wb1 at *
     generalize wv.heap.size=gb at *
     refine hK1.out _ _ eH (fun gH=>?_)
     clear hK1 K1
     clear eH
     refine yR 7 (by kernel_rfl) rfl (fun K1 hK1=>?_)
     try simp only[Act.put,Ya,Yb,Yc,Yd,Ye,Yf]
     rw[if_pos (by rfl)]
     refine ydx (.tmp 33) (.tmp 35) rfl r HRf.out gb (by rw[HCr.out];exact hnr) base (.slice A n c) rs hT.pat.own (Nat.le_trans hT.pat.lo (Nat.le_of_lt hT.pat.row.lt)) HRl.out rfl rfl ?_
     intro u wi2 ho hc hk
     obtain⟨A3,c3,hue,_,_⟩:=ho.form
     subst hue
     obtain⟨n3,hn3⟩:=yx ((rs ++ [r]).length)
     rw[hn3]at ho hk ⊢
     clear hn3
     have eH:=hc.row gH (fun e=>hT.out.1 (.inr (.inl e)))
     have hrB:=hc.row hT.pat.row hT.pat.vne.1
     refine hK1.out _ _ eH (fun gH=>?_)
     clear hK1 K1
     clear eH
     refine yg 8 (.pointer (some ⟨B,0,none⟩)) rfl gH ?_
     refine yg 9 (.pointer (some ⟨B,0,none⟩)) rfl gH ?_
     simp only[Act.put,Ya,Yb,Yc,Yd,Ye,Yf]
     refine yR 10 (by kernel_rfl) rfl (fun K1 hK1=>?_)
     try simp only[Act.put,Ya,Yb,Yc,Yd,Ye,Yf]
     rw[if_pos (by rfl)]
     refine ybc 29 (.tmp 38) (.tmp 36) rfl B 0 110 (.slice A n c::(Is NN ++ [(.slice Ad nd cd)])) A3 n3 c3 rfl rfl hrB (by simp) (by kernel_rfl) ?_
     intro wt3 hr5 hg5
     have hU:=hT.setV ho hc hk hr5 hg5
     have eH:=hU.row
     refine hK1.out _ _ eH (fun gH=>?_)
     clear hK1 K1
     clear eH
     refine wpAnyH_done (by kernel_rfl) ?_ _
     refine NoPanic.normal ?_
     have HU:=yh hU
     clear gH hT hU hr5 hg5 ho hc hk hrB hnr
     go_wp2_with fail
     refine bodyPost_end (results_none rfl _ _ _) rfl ?_
     exact⟨rfl,by
      have h9:=HU.out
      rw[←HN9.out,←HD9.out]at h9
      exact h9.fin HG9.out HL9.out⟩
   · skip
     try simp only[Act.put,Ya,Yb,Yc,Yd,Ye,Yf]
     rw[if_pos (by rfl)]
     refine yb6 (.tmp 34) rfl C HC68.out rfl ?_
     have hnr:=Row.new wv 64 C
     replace hT:=hT.below ((Below.refl wv.heap.size wv).alloc (Nat.le_refl _) (.cells C.toArray 64))
     have eH:=hT.row
     generalize wv.alloc (.cells C.toArray 64)=wb4 at *
     generalize wv.heap.size=gb at *
     refine hK1.out _ _ eH (fun gH=>?_)
     clear hK1 K1
     clear eH
     refine yR 4 (by kernel_rfl) rfl (fun K1 hK1=>?_)
     try simp only[Act.put,Ya,Yb,Yc,Yd,Ye,Yf]
     rw[if_pos (by rfl)]
     have hcx:=hT.pat.c0
     go_simp
     refine hK1.out _ _ (gH) (fun gH=>?_)
     clear hK1 K1
     clear hcx
     refine yR 7 (by kernel_rfl) rfl (fun K1 hK1=>?_)
     try simp only[Act.put,Ya,Yb,Yc,Yd,Ye,Yf]
     rw[if_pos (by rfl)]
     refine ydx (.tmp 33) (.tmp 35) rfl r HRf.out gb (by rw[HCr.out];exact hnr) base (.slice A n c) rs hT.pat.own (Nat.le_trans hT.pat.lo (Nat.le_of_lt hT.pat.row.lt)) HRl.out rfl rfl ?_
     intro u wi5 ho hc hk
     obtain⟨A3,c3,hue,_,_⟩:=ho.form
     subst hue
     obtain⟨n3,hn3⟩:=yx ((rs ++ [r]).length)
     rw[hn3]at ho hk ⊢
     clear hn3
     have eH:=hc.row gH (fun e=>hT.out.1 (.inr (.inl e)))
     have hrB:=hc.row hT.pat.row hT.pat.vne.1
     refine hK1.out _ _ eH (fun gH=>?_)
     clear hK1 K1
     clear eH
     refine yg 8 (.pointer (some ⟨B,0,none⟩)) rfl gH ?_
     refine yg 9 (.pointer (some ⟨B,0,none⟩)) rfl gH ?_
     simp only[Act.put,Ya,Yb,Yc,Yd,Ye,Yf]
     refine yR 10 (by kernel_rfl) rfl (fun K1 hK1=>?_)
     try simp only[Act.put,Ya,Yb,Yc,Yd,Ye,Yf]
     rw[if_pos (by rfl)]
     refine ybc 29 (.tmp 38) (.tmp 36) rfl B 0 110 (.slice A n c::(Is NN ++ [(.slice Ad nd cd)])) A3 n3 c3 rfl rfl hrB (by simp) (by kernel_rfl) ?_
     intro wt6 hr5 hg5
     have hU:=hT.setV ho hc hk hr5 hg5
     have eH:=hU.row
     refine hK1.out _ _ eH (fun gH=>?_)
     clear hK1 K1
     clear eH
     refine wpAnyH_done (by kernel_rfl) ?_ _
     refine NoPanic.normal ?_
     have HU:=yh hU
     clear gH hT hU hr5 hg5 ho hc hk hrB hnr
     go_wp2_with fail
     refine bodyPost_end (results_none rfl _ _ _) rfl ?_
     exact⟨rfl,by
      have h9:=HU.out
      rw[←HN9.out,←HD9.out]at h9
      exact h9.fin HG9.out HL9.out⟩
 · skip
   try simp only[Act.put,Ya,Yb,Yc,Yd,Ye,Yf]
   go_simp
   have hnr:Row (wq.alloc (.cells (ic ri).toArray 3)) wq.heap.size 3 (ic ri):=Row.new wq 3 (ic ri)
   replace hT:=hT.below ((Below.refl wq.heap.size wq).alloc (Nat.le_refl _) (.cells (ic ri).toArray 3))
   have eH:=hT.row
   generalize hwb:wq.alloc (.cells (ic ri).toArray 3)=wb4 at *
   have hwb2:wq.alloc (.cells #[.int .i64 ri] 3)=wb4:=hwb
   rw[hwb2]
   clear hwb hwb2
   generalize wq.heap.size=gb at *
   refine hK1.out _ _ eH (fun gH=>?_)
   clear hK1 K1
   clear eH
   refine yR 4 (by kernel_rfl) rfl (fun K1 hK1=>?_)
   try simp only[Act.put,Ya,Yb,Yc,Yd,Ye,Yf]
   rw[if_pos (by rfl)]
   have hcx:=hT.pat.c65
   go_simp
   refine hK1.out _ _ (gH) (fun gH=>?_)
   clear hK1 K1
   clear hcx
   refine yR 8 (by kernel_rfl) rfl (fun K1 hK1=>?_)
   try simp only[Act.put,Ya,Yb,Yc,Yd,Ye,Yf]
   rw[if_pos (by rfl)]
   refine yo4 (.tmp 12) (.tmp 15) rfl ri gb hnr base dv (Od.del rs) hT.pat.dow (Nat.le_trans hT.pat.lo (Nat.le_of_lt hT.pat.row.lt)) HDl.out rfl rfl ?_
   intro u wi5 ho hc hk
   obtain⟨Ad,cd,hue,_,_⟩:=ho.form
   subst hue
   obtain⟨nd,hnd⟩:=yx ((Od.del rs ++ [ri]).length)
   rw[hnd]at ho hk ⊢
   clear hnd
   have eH:=hc.row gH (fun e=>hT.out.1 (.inr (.inr e)))
   have hrB:=hc.row hT.pat.row hT.pat.vne.2
   refine hK1.out _ _ eH (fun gH=>?_)
   clear hK1 K1
   clear eH
   refine yg 9 (.pointer (some ⟨B,0,none⟩)) rfl gH ?_
   refine yg 10 (.pointer (some ⟨B,65,none⟩)) rfl gH ?_
   simp only[Act.put,Ya,Yb,Yc,Yd,Ye,Yf]
   refine yR 11 (by kernel_rfl) rfl (fun K1 hK1=>?_)
   try simp only[Act.put,Ya,Yb,Yc,Yd,Ye,Yf]
   rw[if_pos (by rfl)]
   refine ybc 45 (.tmp 18) (.tmp 16) rfl B 65 110 (.slice A n c::(Is NN ++ [dv])) Ad nd cd rfl rfl hrB (by simp[hT.pat.isl]) (by kernel_rfl) ?_
   intro wt6 hr4 hg4
   have hU:=hT.setD ho hc hk hr4 hg4
   have eH:=hU.row
   refine hK1.out _ _ eH (fun gH=>?_)
   clear hK1 K1
   clear eH
   refine wpAnyH_done (by kernel_rfl) ?_ _
   refine NoPanic.normal ?_
   have HD:=yh hU
   clear gH hT hU hr4 hg4 ho hc hk hrB hnr
   go_wp2_with fail
   have hT:=HD.out.below (Below.refl _ _).drew
   refine wp_region_noPanic ?_
   refine wp_region_held_drew (S:=fun w'=>Row w' gr 64 C) (by kernel_rfl) (HD.out.row) (fun gH=>?_)
   generalize wt6.drew=wv at *
   refine yg 0 (.pointer (some ⟨B,0,none⟩)) rfl gH ?_
   refine yg 1 (.pointer (some ⟨B,0,none⟩)) rfl gH ?_
   simp only[Act.put,Ya,Yb,Yc,Yd,Ye,Yf]
   refine yg 2 (.pointer (some ⟨B,0,none⟩)) rfl gH ?_
   refine yg 3 (.pointer (some ⟨B,0,none⟩)) rfl gH ?_
   refine' yl 5 _ rfl (yieldsIf_load_mid (by rfl) _ _ rfl gr 0 rfl C _ (fun w' hSw=>yah hSw) Tryz.underlying64 rfl (by rw[yaf,HC68.out])) gH ?_
   simp only[Act.put,Ya,Yb,Yc,Yd,Ye,Yf]
   refine yS 4 6 (by kernel_rfl) rfl rfl (fun K1 hK1=>?_) (fun K1 hK1=>?_)
   · skip
     try simp only[Act.put,Ya,Yb,Yc,Yd,Ye,Yf]
     rw[if_pos (by rfl)]
     have hcx:=hT.pat.c0
     go_simp
     refine hK1.out _ _ (gH) (fun gH=>?_)
     clear hK1 K1
     clear hcx
     refine yR 6 (by kernel_rfl) rfl (fun K1 hK1=>?_)
     try simp only[Act.put,Ya,Yb,Yc,Yd,Ye,Yf]
     rw[if_pos (by rfl)]
     refine yb6 (.tmp 34) rfl C HC68.out rfl ?_
     have hnr:=Row.new wv 64 C
     replace hT:=hT.below ((Below.refl wv.heap.size wv).alloc (Nat.le_refl _) (.cells C.toArray 64))
     have eH:=hT.row
     generalize wv.alloc (.cells C.toArray 64)=wb1 at *
     generalize wv.heap.size=gb at *
     refine hK1.out _ _ eH (fun gH=>?_)
     clear hK1 K1
     clear eH
     refine yR 7 (by kernel_rfl) rfl (fun K1 hK1=>?_)
     try simp only[Act.put,Ya,Yb,Yc,Yd,Ye,Yf]
     rw[if_pos (by rfl)]
     refine ydx (.tmp 33) (.tmp 35) rfl r HRf.out gb (by rw[HCr.out];exact hnr) base (.slice A n c) rs hT.pat.own (Nat.le_trans hT.pat.lo (Nat.le_of_lt hT.pat.row.lt)) HRl.out rfl rfl ?_
     intro u wi2 ho hc hk
     obtain⟨A3,c3,hue,_,_⟩:=ho.form
     subst hue
     obtain⟨n3,hn3⟩:=yx ((rs ++ [r]).length)
     rw[hn3]at ho hk ⊢
     clear hn3
     have eH:=hc.row gH (fun e=>hT.out.1 (.inr (.inl e)))
     have hrB:=hc.row hT.pat.row hT.pat.vne.1
     refine hK1.out _ _ eH (fun gH=>?_)
     clear hK1 K1
     clear eH
     refine yg 8 (.pointer (some ⟨B,0,none⟩)) rfl gH ?_
     refine yg 9 (.pointer (some ⟨B,0,none⟩)) rfl gH ?_
     simp only[Act.put,Ya,Yb,Yc,Yd,Ye,Yf]
     refine yR 10 (by kernel_rfl) rfl (fun K1 hK1=>?_)
     try simp only[Act.put,Ya,Yb,Yc,Yd,Ye,Yf]
     rw[if_pos (by rfl)]
     refine ybc 29 (.tmp 38) (.tmp 36) rfl B 0 110 (.slice A n c::(Is NN ++ [(.slice Ad nd cd)])) A3 n3 c3 rfl rfl hrB (by simp) (by kernel_rfl) ?_
     intro wt3 hr5 hg5
     have hU:=hT.setV ho hc hk hr5 hg5
     have eH:=hU.row
     refine hK1.out _ _ eH (fun gH=>?_)
     clear hK1 K1
     clear eH
     refine wpAnyH_done (by kernel_rfl) ?_ _
     refine NoPanic.normal ?_
     have HU:=yh hU
     clear gH hT hU hr5 hg5 ho hc hk hrB hnr
     go_wp2_with fail
     refine bodyPost_end (results_none rfl _ _ _) rfl ?_
     exact⟨rfl,by
      have h9:=HU.out
      rw[←HN9.out,←HD9.out]at h9
      exact h9.fin HG9.out HL9.out⟩
   · skip
     try simp only[Act.put,Ya,Yb,Yc,Yd,Ye,Yf]
     rw[if_pos (by rfl)]
     refine yb6 (.tmp 34) rfl C HC68.out rfl ?_
     have hnr:=Row.new wv 64 C
     replace hT:=hT.below ((Below.refl wv.heap.size wv).alloc (Nat.le_refl _) (.cells C.toArray 64))
     have eH:=hT.row
     generalize wv.alloc (.cells C.toArray 64)=wb4 at *
     generalize wv.heap.size=gb at *
     refine hK1.out _ _ eH (fun gH=>?_)
     clear hK1 K1
     clear eH
     refine yR 4 (by kernel_rfl) rfl (fun K1 hK1=>?_)
     try simp only[Act.put,Ya,Yb,Yc,Yd,Ye,Yf]
     rw[if_pos (by rfl)]
     have hcx:=hT.pat.c0
     go_simp
     refine hK1.out _ _ (gH) (fun gH=>?_)
     clear hK1 K1
     clear hcx
     refine yR 7 (by kernel_rfl) rfl (fun K1 hK1=>?_)
     try simp only[Act.put,Ya,Yb,Yc,Yd,Ye,Yf]
     rw[if_pos (by rfl)]
     refine ydx (.tmp 33) (.tmp 35) rfl r HRf.out gb (by rw[HCr.out];exact hnr) base (.slice A n c) rs hT.pat.own (Nat.le_trans hT.pat.lo (Nat.le_of_lt hT.pat.row.lt)) HRl.out rfl rfl ?_
     intro u wi5 ho hc hk
     obtain⟨A3,c3,hue,_,_⟩:=ho.form
     subst hue
     obtain⟨n3,hn3⟩:=yx ((rs ++ [r]).length)
     rw[hn3]at ho hk ⊢
     clear hn3
     have eH:=hc.row gH (fun e=>hT.out.1 (.inr (.inl e)))
     have hrB:=hc.row hT.pat.row hT.pat.vne.1
     refine hK1.out _ _ eH (fun gH=>?_)
     clear hK1 K1
     clear eH
     refine yg 8 (.pointer (some ⟨B,0,none⟩)) rfl gH ?_
     refine yg 9 (.pointer (some ⟨B,0,none⟩)) rfl gH ?_
     simp only[Act.put,Ya,Yb,Yc,Yd,Ye,Yf]
     refine yR 10 (by kernel_rfl) rfl (fun K1 hK1=>?_)
     try simp only[Act.put,Ya,Yb,Yc,Yd,Ye,Yf]
     rw[if_pos (by rfl)]
     refine ybc 29 (.tmp 38) (.tmp 36) rfl B 0 110 (.slice A n c::(Is NN ++ [(.slice Ad nd cd)])) A3 n3 c3 rfl rfl hrB (by simp) (by kernel_rfl) ?_
     intro wt6 hr5 hg5
     have hU:=hT.setV ho hc hk hr5 hg5
     have eH:=hU.row
     refine hK1.out _ _ eH (fun gH=>?_)
     clear hK1 K1
     clear eH
     refine wpAnyH_done (by kernel_rfl) ?_ _
     refine NoPanic.normal ?_
     have HU:=yh hU
     clear gH hT hU hr5 hg5 ho hc hk hrB hnr
     go_wp2_with fail
     refine bodyPost_end (results_none rfl _ _ _) rfl ?_
     exact⟨rfl,by
      have h9:=HU.out
      rw[←HN9.out,←HD9.out]at h9
      exact h9.fin HG9.out HL9.out⟩
theorem LogAt.put_who {w:World}{base B:Nat}{v dv:Value}{rs:List Rp}(h:LogAt w base B v dv rs)(r:Rp)(hr:r.Fits)(hg:Od.Good (rs ++ [r]))(hl:rs.length<1000)(who:Nat)(hw:Od.by_ r=(who:Int))(hw64:who<64):
 Calls Tryz.prog 93 #[.pointer (some ⟨B,0,none⟩),.agg r.cells.toArray,.int .i64 who] w fun e w'=>e=.returned (.tuple #[])∧LTo w w' base B v dv (rs ++ [r]):=by
 obtain⟨A,c,hvA⟩:=h.form
 subst hvA
 have hlen:=h.len
 have HC68:=yh (Rp.yao hr.prev hr.hash)
 have HRf:=yh hr
 have HG9:=yh hg
 have HL9:Hid ((rs ++ [r]).length≤1000):=yh (by rw[List.length_append,List.length_singleton];omega)
 have HDl:Hid ((Od.del rs).length≤100000):=yh (by have:=Od.yja rs;omega)
 have HRl:Hid (rs.length≤100000):=yh (by omega)
 have hBx:Hid (∀W g,Row W g 64 r.cells→W.cell? ⟨g,0,none⟩=some (.int .i64 r.index)):=yh (fun W g h=>(ydf h).1)
 have HCr:Hid (r.cells=r.cells):=yh rfl
 have hraw:=h.raw
 have hb0:=(Below.refl w.heap.size w).alloc (Nat.le_refl _) (.cells r.cells.toArray 64)
 have HT0:Hid (LgW w (w.alloc (.cells r.cells.toArray 64)) base B (.slice A rs.length c) dv (.slice A rs.length c) dv (Od.nexts rs) rs (Od.del rs) w.heap.size r.cells):=yh ⟨hraw.chg (S:=fun _=>False) (Chg.ya6 hb0) (fun _ _ q=>q),Chg.ya6 hb0,fun k hk=>.inl hk,Row.new w _ _,fun q=>by have:=(hraw.lt _ q).2;omega,Nat.le_refl _⟩
 obtain⟨nv,hnv0⟩ :∃nv:Int,(Od.cnt rs (who:Int):Int)=nv:=⟨_,rfl⟩
 have hnvb:0≤nv∧nv≤1000:=by have:=Od.yt5 rs (who:Int);omega
 have ewv:IntKind.i64.wrap (nv+1)=nv+1:=IntWalk.i64_in _ (by omega)
 have HN9:Hid (Od.nexts (rs ++ [r])=(Od.nexts rs).set who (nv+1)):=yh (by rw[←hnv0];exact Od.yql hw hw64)
 have HD9:Hid (Od.del (rs ++ [r])=Od.del rs):=yh (Od.ym2 (by omega))
 have hnv:(Od.nexts rs).getD who 0=nv:=by rw[List.getD_eq_getElem?_getD,List.getElem?_eq_getElem (by rw[Od.ycp];exact hw64),Option.getD_some,Od.yez rs who hw64];exact hnv0
 obtain⟨v0,hv0⟩ :∃v0,v0=Value.slice A rs.length c:=⟨_,rfl⟩
 obtain⟨dv0,hdv0⟩ :∃dv0,dv0=dv:=⟨_,rfl⟩
 have HT0':Hid (LgW w (w.alloc (.cells r.cells.toArray 64)) base B v0 dv0 (.slice A rs.length c) dv (Od.nexts rs) rs (Od.del rs) w.heap.size r.cells):=by rw[hv0,hdv0];exact HT0
 clear HT0
 have HT0:=HT0'
 clear HT0'
 suffices Calls Tryz.prog 93 #[.pointer (some ⟨B,0,none⟩),.agg r.cells.toArray,.int .i64 who] w fun e w'=>e=.returned (.tuple #[])∧LTo w w' base B v0 dv0 (rs ++ [r]) by
  rw[hv0,hdv0]at this
  exact this
 clear hv0 hdv0
 obtain⟨C,hC⟩:=yx (r.cells)
 rw[hC]at HC68 HT0 hBx ⊢
 replace HCr:=yh hC
 obtain⟨NN,hNN⟩:=yx (Od.nexts rs)
 rw[hNN]at HT0 HN9 hnv
 obtain⟨n,hn⟩:=yx (rs.length)
 rw[hn]at HT0
 obtain⟨gr,hgr⟩:=yx (w.heap.size)
 obtain⟨w1,hw1⟩:=yx (w.alloc (.cells C.toArray 64))
 rw[hgr,hw1]at HT0
 have HNv:=yh hnv
 have dw:((who:Int) == -1)=false:=beq_eq_false_iff_ne.2 (by omega)
 have hw0:(0:Int)≤(who:Int):=by omega
 have hw1':(who:Int)<64:=by omega
 clear h hr hg hl hw hlen hraw hb0 hC hNN hn hnv hnv0 hnvb
 go_enter Tryz.func93,Tryz.ntmps93
 go_wp2_with fail
 try simp only[hw1,hgr]
 clear hw1 hgr
 have hT:=HT0.out.below (Below.refl _ _).drew
 refine wp_region_noPanic ?_
 refine wp_region_held_drew (S:=fun w'=>Row w' gr 64 C) (by kernel_rfl) (HT0.out.row) (fun gH=>?_)
 generalize w1.drew=wq at *
 refine yg 0 (.pointer (some ⟨B,0,none⟩)) rfl gH ?_
 refine yg 1 (.int .i64 who) rfl gH ?_
 simp only[Act.put,Ya,Yb,Yc,Yd,Ye,Yf]
 refine yg 2 (.pointer (some ⟨B,0,none⟩)) rfl gH ?_
 refine yg 3 (.pointer (some ⟨B,1,none⟩)) rfl gH ?_
 refine yg 4 (.pointer (some ⟨B,(1+who),none⟩)) rfl gH ?_
 simp only[Act.put,Ya,Yb,Yc,Yd,Ye,Yf]
 refine yg 7 (.pointer (some ⟨B,0,none⟩)) rfl gH ?_
 refine yg 8 (.pointer (some ⟨B,1,none⟩)) rfl gH ?_
 refine yR 5 (by kernel_rfl) rfl (fun K1 hK1=>?_)
 try simp only[Act.put,Ya,Yb,Yc,Yd,Ye,Yf]
 rw[if_pos (by rfl)]
 have hcx:=(hT.pat.cN who hw64).trans (by rw[HNv.out])
 go_simp
 refine hK1.out _ _ (gH) (fun gH=>?_)
 clear hK1 K1
 clear hcx
 refine yg 6 (.int .i64 (nv+1)) rfl gH ?_
 refine yg 9 (.pointer (some ⟨B,(1+who),none⟩)) rfl gH ?_
 simp only[Act.put,Ya,Yb,Yc,Yd,Ye,Yf]
 refine yR 10 (by kernel_rfl) rfl (fun K1 hK1=>?_)
 try simp only[Act.put,Ya,Yb,Yc,Yd,Ye,Yf]
 rw[if_pos (by rfl)]
 refine yjm 3 (.tmp 28) (.tmp 25) rfl B (1+who) 110 (.slice A n c::(Is NN ++ [dv])) (nv+1) rfl rfl hT.pat.row (by simp[hT.pat.isl];omega) (by kernel_rfl) ?_
 intro wt1 hr4 hg4
 have hU:=hT.setN who hw64 (nv+1) hr4 hg4
 have eH:=hU.row
 refine hK1.out _ _ eH (fun gH=>?_)
 clear hK1 K1
 clear eH
 refine wpAnyH_done (by kernel_rfl) ?_ _
 refine NoPanic.normal ?_
 have HD:=yh hU
 clear gH hT hU hr4 hg4
 go_wp2_with fail
 have hT:=HD.out.below (Below.refl _ _).drew
 refine wp_region_noPanic ?_
 refine wp_region_held_drew (S:=fun w'=>Row w' gr 64 C) (by kernel_rfl) (HD.out.row) (fun gH=>?_)
 generalize wt1.drew=wv at *
 refine yg 0 (.pointer (some ⟨B,0,none⟩)) rfl gH ?_
 refine yg 1 (.pointer (some ⟨B,0,none⟩)) rfl gH ?_
 simp only[Act.put,Ya,Yb,Yc,Yd,Ye,Yf]
 refine yg 2 (.pointer (some ⟨B,0,none⟩)) rfl gH ?_
 refine yg 3 (.pointer (some ⟨B,0,none⟩)) rfl gH ?_
 refine' yl 5 _ rfl (yieldsIf_load_mid (by rfl) _ _ rfl gr 0 rfl C _ (fun w' hSw=>yah hSw) Tryz.underlying64 rfl (by rw[yaf,HC68.out])) gH ?_
 simp only[Act.put,Ya,Yb,Yc,Yd,Ye,Yf]
 refine yS 4 6 (by kernel_rfl) rfl rfl (fun K1 hK1=>?_) (fun K1 hK1=>?_)
 · skip
   try simp only[Act.put,Ya,Yb,Yc,Yd,Ye,Yf]
   rw[if_pos (by rfl)]
   have hcx:=hT.pat.c0
   go_simp
   refine hK1.out _ _ (gH) (fun gH=>?_)
   clear hK1 K1
   clear hcx
   refine yR 6 (by kernel_rfl) rfl (fun K1 hK1=>?_)
   try simp only[Act.put,Ya,Yb,Yc,Yd,Ye,Yf]
   rw[if_pos (by rfl)]
   refine yb6 (.tmp 34) rfl C HC68.out rfl ?_
   have hnr:=Row.new wv 64 C
   replace hT:=hT.below ((Below.refl wv.heap.size wv).alloc (Nat.le_refl _) (.cells C.toArray 64))
   have eH:=hT.row
   generalize wv.alloc (.cells C.toArray 64)=wb1 at *
   generalize wv.heap.size=gb at *
   refine hK1.out _ _ eH (fun gH=>?_)
   clear hK1 K1
   clear eH
   refine yR 7 (by kernel_rfl) rfl (fun K1 hK1=>?_)
   try simp only[Act.put,Ya,Yb,Yc,Yd,Ye,Yf]
   rw[if_pos (by rfl)]
   refine ydx (.tmp 33) (.tmp 35) rfl r HRf.out gb (by rw[HCr.out];exact hnr) base (.slice A n c) rs hT.pat.own (Nat.le_trans hT.pat.lo (Nat.le_of_lt hT.pat.row.lt)) HRl.out rfl rfl ?_
   intro u wi2 ho hc hk
   obtain⟨A3,c3,hue,_,_⟩:=ho.form
   subst hue
   obtain⟨n3,hn3⟩:=yx ((rs ++ [r]).length)
   rw[hn3]at ho hk ⊢
   clear hn3
   have eH:=hc.row gH (fun e=>hT.out.1 (.inr (.inl e)))
   have hrB:=hc.row hT.pat.row hT.pat.vne.1
   refine hK1.out _ _ eH (fun gH=>?_)
   clear hK1 K1
   clear eH
   refine yg 8 (.pointer (some ⟨B,0,none⟩)) rfl gH ?_
   refine yg 9 (.pointer (some ⟨B,0,none⟩)) rfl gH ?_
   simp only[Act.put,Ya,Yb,Yc,Yd,Ye,Yf]
   refine yR 10 (by kernel_rfl) rfl (fun K1 hK1=>?_)
   try simp only[Act.put,Ya,Yb,Yc,Yd,Ye,Yf]
   rw[if_pos (by rfl)]
   refine ybc 29 (.tmp 38) (.tmp 36) rfl B 0 110 (.slice A n c::(Is (NN.set who (nv+1)) ++ [dv])) A3 n3 c3 rfl rfl hrB (by simp) (by kernel_rfl) ?_
   intro wt3 hr5 hg5
   have hU:=hT.setV ho hc hk hr5 hg5
   have eH:=hU.row
   refine hK1.out _ _ eH (fun gH=>?_)
   clear hK1 K1
   clear eH
   refine wpAnyH_done (by kernel_rfl) ?_ _
   refine NoPanic.normal ?_
   have HU:=yh hU
   clear gH hT hU hr5 hg5 ho hc hk hrB hnr
   go_wp2_with fail
   refine bodyPost_end (results_none rfl _ _ _) rfl ?_
   exact⟨rfl,by
    have h9:=HU.out
    rw[←HN9.out,←HD9.out]at h9
    exact h9.fin HG9.out HL9.out⟩
 · skip
   try simp only[Act.put,Ya,Yb,Yc,Yd,Ye,Yf]
   rw[if_pos (by rfl)]
   refine yb6 (.tmp 34) rfl C HC68.out rfl ?_
   have hnr:=Row.new wv 64 C
   replace hT:=hT.below ((Below.refl wv.heap.size wv).alloc (Nat.le_refl _) (.cells C.toArray 64))
   have eH:=hT.row
   generalize wv.alloc (.cells C.toArray 64)=wb4 at *
   generalize wv.heap.size=gb at *
   refine hK1.out _ _ eH (fun gH=>?_)
   clear hK1 K1
   clear eH
   refine yR 4 (by kernel_rfl) rfl (fun K1 hK1=>?_)
   try simp only[Act.put,Ya,Yb,Yc,Yd,Ye,Yf]
   rw[if_pos (by rfl)]
   have hcx:=hT.pat.c0
   go_simp
   refine hK1.out _ _ (gH) (fun gH=>?_)
   clear hK1 K1
   clear hcx
   refine yR 7 (by kernel_rfl) rfl (fun K1 hK1=>?_)
   try simp only[Act.put,Ya,Yb,Yc,Yd,Ye,Yf]
   rw[if_pos (by rfl)]
   refine ydx (.tmp 33) (.tmp 35) rfl r HRf.out gb (by rw[HCr.out];exact hnr) base (.slice A n c) rs hT.pat.own (Nat.le_trans hT.pat.lo (Nat.le_of_lt hT.pat.row.lt)) HRl.out rfl rfl ?_
   intro u wi5 ho hc hk
   obtain⟨A3,c3,hue,_,_⟩:=ho.form
   subst hue
   obtain⟨n3,hn3⟩:=yx ((rs ++ [r]).length)
   rw[hn3]at ho hk ⊢
   clear hn3
   have eH:=hc.row gH (fun e=>hT.out.1 (.inr (.inl e)))
   have hrB:=hc.row hT.pat.row hT.pat.vne.1
   refine hK1.out _ _ eH (fun gH=>?_)
   clear hK1 K1
   clear eH
   refine yg 8 (.pointer (some ⟨B,0,none⟩)) rfl gH ?_
   refine yg 9 (.pointer (some ⟨B,0,none⟩)) rfl gH ?_
   simp only[Act.put,Ya,Yb,Yc,Yd,Ye,Yf]
   refine yR 10 (by kernel_rfl) rfl (fun K1 hK1=>?_)
   try simp only[Act.put,Ya,Yb,Yc,Yd,Ye,Yf]
   rw[if_pos (by rfl)]
   refine ybc 29 (.tmp 38) (.tmp 36) rfl B 0 110 (.slice A n c::(Is (NN.set who (nv+1)) ++ [dv])) A3 n3 c3 rfl rfl hrB (by simp) (by kernel_rfl) ?_
   intro wt6 hr5 hg5
   have hU:=hT.setV ho hc hk hr5 hg5
   have eH:=hU.row
   refine hK1.out _ _ eH (fun gH=>?_)
   clear hK1 K1
   clear eH
   refine wpAnyH_done (by kernel_rfl) ?_ _
   refine NoPanic.normal ?_
   have HU:=yh hU
   clear gH hT hU hr5 hg5 ho hc hk hrB hnr
   go_wp2_with fail
   refine bodyPost_end (results_none rfl _ _ _) rfl ?_
   exact⟨rfl,by
    have h9:=HU.out
    rw[←HN9.out,←HD9.out]at h9
    exact h9.fin HG9.out HL9.out⟩
end Go.Proofs.YtalfnadejpmjnaaGreatDoor
