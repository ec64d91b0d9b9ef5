/- A part. -/
import Derived.Test.YtalfnadejpmjnaaGreatDoorNStMem
set_option linter.unusedVariables false
set_option linter.unusedSimpArgs false
set_option maxRecDepth 100000
set_option maxHeartbeats 25600000
namespace Go.Proofs.YtalfnadejpmjnaaGreatDoor
section
open Go.RowKit
theorem yko:(Tryz.prog.info? 52).map (fun i=>(i.zero,i.size,i.bytes))=some (some (.agg Ct.zero.cells.toArray),4,32):=by kernel_rfl
theorem yu0 (ZA:Array Value)(CT:List Value)(h:CT.length=4):Instr.fill (fun i=>some (i*4,4)) ((Array.range (1*4)).map (ZA[· % ZA.size]!)) [(0,.agg CT.toArray)]=some CT.toArray:=by
 have e:((Array.range (1*4)).map (ZA[· % ZA.size]!))=((List.range 4).map (ZA[· % ZA.size]!)).toArray:=by rw[←Array.toList_inj];simp
 rw[e,ya4 _ _ 0 _ CT _ 0 4 rfl (by simp[Value.cells]) h (by simp),ydt]
 simp[List.drop_of_length_le]
theorem ydd {o:Oper}{a:Act}{w:World}{K:Act→World→Prop}{Q:Exit→Act→World→Prop}(x:Operand)(ho:o.op=.buildSlice 30 1 #[(0,x)])(C:List Value)(hC:C.length=4)(hx:a.eval x=.agg C.toArray)
 (h:K (a.put o.dst (.slice (some ⟨w.heap.size,0,none⟩) 1 1)) (w.alloc (.cells C.toArray 52))):o.wp Tryz.prog a w K Q:=by
 obtain⟨i0,hi,h2⟩:=Option.map_eq_some_iff.1 yko
 simp only[Prod.mk.injEq]at h2
 obtain⟨hz,hsz,hby⟩:=h2
 have hf:=yu0 Ct.zero.cells.toArray C hC
 refine wp_buildSlice 30 52 1 _ ho C.toArray i0 (.agg Ct.zero.cells.toArray) Tryz.underlying30 hi hz (by rw[hsz];decide) (by rw[hsz];decide) ?_ h
 rw[hsz]
 simpa[Value.cells,hx] using hf
theorem ygc {o:Oper}{a:Act}{w:World}{K:Act→World→Prop}{Q:Exit→Act→World→Prop}(sl y:Operand)(ho:o.op=.call { callee:=.builtin .append,args:=#[sl,y],argTypes:=#[30,30] })
 (c:Ct) (gv:Nat) (hrow:Row w gv 52 c.cells) (base:Nat) (v:Value) (l:List Ct) (hown:OwnL w base 52 4 Ct.cells v l) (hbase:base≤w.heap.size) (hlen:l.length≤100000)
 (hs:a.eval sl=v) (hy:a.eval y=.slice (some ⟨gv,0,none⟩) 1 1)
 (H :∀v' w',OwnL w' base 52 4 Ct.cells v' (l ++ [c])→Chg (fun k=>v.ownBlock=some k) w w'→(∀k,v'.ownBlock=some k→v.ownBlock=some k∨w.heap.size≤k)→K (a.put o.dst v') w'):o.wp Tryz.prog a w K Q:=by
 obtain⟨i0,hi,h2⟩:=Option.map_eq_some_iff.1 yko
 simp only[Prod.mk.injEq]at h2
 obtain⟨hz,hsz,hby⟩:=h2
 refine ybx sl y 30 ho base 52 i0 (.agg Ct.zero.cells.toArray) 4 32 Tryz.underlying30 hi hz hsz hby (by simp[Value.cells,Ct.cells]) (by decide) v l.length (Rw.flat Ct.cells l) hs hown.own ⟨gv,0,none⟩ 1 1 c.cells hy rfl (fun j u hu=>?_) (Ct.one c) (by decide) (by unfold maxLen;omega) (by omega) hbase (fun v' w' ho hg hat=>H v' w' (OwnL.pushed ho) ?_ ?_)
 · have:=yah hrow j u hu
   rw[Nat.zero_add]at this
   have hadd:(⟨gv,0,none⟩:Addr).add j=⟨gv,j,none⟩:=by unfold Addr.add;split <;> simp_all
   rw[hadd]
   exact this
 · exact Chg.yat (S:=fun k=>v.ownBlock=some k) hg (fun k hk=>.inl hk)
 · intro k hk
   rcases hat with q|q
   · exact .inl (q ▸ hk)
   · rw[q]at hk
     cases hk
     exact .inr (Nat.le_refl _)
theorem yl1 {rs:List Rp}{cs:List Ct}{n:Int}(hc:CtsOk cs)(hl:rs.length≤1000)(h:(ctNext rs cs n).2=0) :∀x∈(ctNext rs cs n).1.nums,x≤9223372036854775807:=by
 unfold ctNext at h ⊢
 split at h
 · cases h
 · split at h
   · cases h
   · next h1 h2=>
     rw[if_neg h1,if_neg h2]
     have he:=hc.ctEnd
     have ht:Od.taken rs (ctEnd cs)≤1000:=by
      have h3:=Od.yja rs
      unfold Od.taken Od.lt
      have:=List.countP_le_length (p:=fun y:Int=>decide (y<ctEnd cs)) (l:=Od.del rs)
      omega
     have:=hc.1
     unfold ctOpen at h2
     intro x hx
     simp only[Ct.nums,List.mem_cons,List.not_mem_nil,or_false]at hx
     rcases hx with rfl|rfl|rfl|rfl <;> omega
theorem St.cut_no {w0 W:World}{p g:Nat}{l:List Jn.Fl}{r:Int}{j:Jn.Jr.J}{rs:List Rp}{cs:List Ct}{rel:Int}{rows:Rws}(h:St w0 W p g l r j rs cs rel false rows)(hc:CtsOk cs)(nn:Int)(he:(ctNext rs cs nn).2≠0):Calls Tryz.prog 31 #[.pointer (some ⟨p,0,none⟩),.int .i64 nn] W fun e w'=>e=.returned (.tuple #[.agg Ct.zero.cells.toArray,.int .i64 (ctNext rs cs nn).2])∧St w0 w' p g l r j rs cs rel false rows:=by
 obtain⟨q,B,Z,v,dv,cv,h⟩:=h
 have hz:=yjb
 have HZ4:Hid (Ct.zero.cells.length=4):=yh rfl
 have HZ1:=yh (Ct.one Ct.zero)
 have HBt:Hid (Tryz.prog.built 52 []=some Ct.zero.cells.toArray):=yh yhe
 obtain⟨ZT,hZT⟩:=yx (Ct.zero.cells)
 rw[hZT]at hz HZ4 HZ1 HBt ⊢
 have HZT:=yh hZT
 clear hZT
 obtain⟨nc,hnc⟩:=yx (ctNext rs cs nn)
 obtain⟨c,ee⟩:=nc
 rw[hnc]at he ⊢
 simp only at he
 have HNc:=yh hnc
 have dee:(ee != 0)=true:=by simpa using he
 have HCc:=yh hc
 clear he hnc hc
 have HA:=yh (h.alloc 52 ZT)
 have HNe:=yh h.fresh
 clear h
 go_enter Tryz.func31,Tryz.ntmps31
 go_wp2_with fail
 generalize W.alloc (.cells ZT.toArray 52)=W1 at *
 generalize W.heap.size=gr at *
 have WR:=yh HA.out.wrong
 refine WR.out.mono ?_
 rintro _ _ ⟨rfl,rfl⟩
 clear WR
 have NC:=yh (HA.out.nextCut HCc.out nn)
 rw[HNc.out]at NC
 have HC4:Hid (c.cells.length=4):=yh rfl
 have HC1:=yh (Ct.one c)
 generalize c.cells=CC at *
 go_wp2_with fail
 refine NC.out.mono ?_
 rintro _ w2 ⟨rfl,hb2⟩
 have HA2:=yh (HA.out.below hb2)
 clear hb2 NC HNc
 go_wp2_with (first
  | (
     with_reducible show wpList _ _ _ (⟨_,.store 52 (.tmp 7) _,_,_,_,_⟩::_) _ _
     refine yab rfl 52 (.tmp 7) (.tmp 20) rfl w2.heap.size 0 CC ZT _ rfl rfl (Row.new w2 52 ZT) (by have:=HZ4.out;have:=HC4.out;omega) (by rw[yba,HC4.out]) HC1.out ?_
     intro w3 hr hg
     rw[yad (HC4.out.trans HZ4.out.symm)]at hr
     have HA3:=yh (HA2.out.box hg hr)
     have HNf:=yh HA2.out.fresh
     clear hr hg)
  | ((with_reducible show wpList _ _ _ (⟨_,.build 52 _,_,_,_,_⟩::_) _ _);refine yak rfl 52 [] rfl (some 24) rfl _ rfl ZT.toArray HBt.out ?_)
  | (
     with_reducible show wpList _ _ _ (⟨_,.store 52 (.tmp 4) _,_,_,_,_⟩::_) _ _
     refine yab rfl 52 (.tmp 4) (.tmp 24) rfl gr 0 ZT ZT 52 rfl rfl (HA3.out.brow (T:=52) (X:=ZT) (by simp)) (by have:=HZ4.out;omega) (by rw[yba,HZ4.out]) HZ1.out ?_
     intro w9 hr hg
     rw[yad rfl]at hr
     have HS9:=yh hr
     have HD9:=yh ((HA3.out.less (rows':=(gr,52,ZT)::rows) (fun x hx=>List.mem_cons_of_mem _ hx)).write hg hr HNe.out)
     clear hr hg))
 refine bodyPost_ret (yaj rfl _ _ gr 52 ZT _ rfl HS9.out Tryz.underlying52 rfl (by rw[yba];simp[HZ4.out]) _ rfl) rfl ⟨rfl,?_⟩
 exact⟨q,B,Z,v,dv,cv,HD9.out.less (fun x hx=>List.mem_cons_of_mem _ hx)⟩
theorem St.cut_ok {w0 W:World}{p g:Nat}{l:List Jn.Fl}{r:Int}{j:Jn.Jr.J}{rs:List Rp}{cs:List Ct}{rel:Int}{rows:Rws}(h:St w0 W p g l r j rs cs rel false rows)(hc:CtsOk cs)(hlr:rs.length≤1000)(hjl:j.len≤1000000000)(nn:Int)(he:(ctNext rs cs nn).2=0)(hje:(Jn.Jr.addR l r j (ctNext rs cs nn).1.rcd).2.2.2=0):Calls Tryz.prog 31 #[.pointer (some ⟨p,0,none⟩),.int .i64 nn] W fun e w'=>e=.returned (.tuple #[.agg (ctNext rs cs nn).1.cells.toArray,.int .i64 0])∧St w0 w' p g (Jn.Jr.addR l r j (ctNext rs cs nn).1.rcd).1 (Jn.Jr.addR l r j (ctNext rs cs nn).1.rcd).2.1 (Jn.Jr.addR l r j (ctNext rs cs nn).1.rcd).2.2.1 rs (cs ++ [(ctNext rs cs nn).1]) rel false rows:=by
 obtain⟨q,B,Z,v,dv,cv,h⟩:=h
 obtain⟨A,cp,hcv,_,_⟩:=h.ct.form
 subst hcv
 have HCl:Hid (cs.length≤100000):=yh (by have:=hc.1;omega)
 have hz:=yjb
 have HZ4:Hid (Ct.zero.cells.length=4):=yh rfl
 have HZ1:=yh (Ct.one Ct.zero)
 have HBt:Hid (Tryz.prog.built 52 []=some Ct.zero.cells.toArray):=yh yhe
 obtain⟨ZT,hZT⟩:=yx (Ct.zero.cells)
 rw[hZT]at hz HZ4 HZ1 HBt
 have HZT:=yh hZT
 clear hZT
 obtain⟨nc,hnc⟩:=yx (ctNext rs cs nn)
 obtain⟨c,ee⟩:=nc
 rw[hnc]at he hje ⊢
 simp only at he hje
 subst he
 have HNm:=yh (show∀x∈c.nums,x≤9223372036854775807 from by
  have:=yl1 (n:=nn) hc hlr (by rw[hnc])
  rwa[hnc]at this)
 have LC:=yh (fun W=>yh8 c HNm.out W)
 have hlr1:=Ct.yc2 c
 obtain⟨RC,hRC⟩:=yx (c.rcd)
 rw[hRC]at LC hje hlr1 ⊢
 obtain⟨ad,had⟩:=yx (Jn.Jr.addR l r j RC)
 obtain⟨l2,r2,j2,je⟩:=ad
 have JA:Hid (∀{B:Nat}{Z:Nat→Prop}{g q:Nat}(W:World),Jn.JS W B Z g q l r j→Calls Tryz.prog 28 #[.pointer (some ⟨q,0,none⟩),S RC] W fun e w'=>e=.returned (.int .i64 je)∧Jn.JTo W w' B Z g q l2 r2 j2):=yh (fun W h=>by
  have:=Jn.yq9 h RC (by omega) hjl
  rw[had]at this
  exact this)
 rw[had]at hje ⊢
 simp only at hje
 have HNc:=yh hnc
 have HCc:=yh hc
 have HC4:Hid (c.cells.length=4):=yh rfl
 have HC1:=yh (Ct.one c)
 clear hnc hc had hRC hjl hlr1 hlr HNm
 subst hje
 obtain⟨n,hn⟩:=yx (cs.length)
 rw[hn]at h
 clear hn
 have HA:=yh (h.alloc 52 ZT)
 have HNe:=yh h.fresh
 clear h
 go_enter Tryz.func31,Tryz.ntmps31
 go_wp2_with fail
 generalize W.alloc (.cells ZT.toArray 52)=W1 at *
 generalize W.heap.size=gr at *
 have WR:=yh HA.out.wrong
 refine WR.out.mono ?_
 rintro _ _ ⟨rfl,rfl⟩
 clear WR
 have NC:=yh (HA.out.nextCut HCc.out nn)
 rw[HNc.out]at NC
 obtain⟨CC,hCC⟩:=yx (c.cells)
 have HCC:=yh hCC
 have NC':Hid (Calls Tryz.prog 67 #[.pointer (some ⟨p,0,none⟩),.int .i64 nn] W1 fun e w'=>e=.returned (.tuple #[.agg CC.toArray,.int .i64 0])∧Below W1.heap.size W1 w'):=yh (by have:=NC.out;rw[hCC]at this;exact this)
 have LC':Hid (∀W,Calls Tryz.prog 68 #[.agg CC.toArray] W fun e w'=>e=.returned (S RC)∧Below W.heap.size W w'):=yh (by have:=LC.out;rw[hCC]at this;exact this)
 rw[hCC]at HC4 HC1
 clear NC LC hCC
 have LC:=LC'
 clear LC'
 go_wp2_with fail
 refine NC'.out.mono ?_
 rintro _ w2 ⟨rfl,hb2⟩
 have HA2:=yh (HA.out.below hb2)
 clear hb2 NC' HNc
 go_wp2_with (first
  | (
     with_reducible show wpList _ _ _ (⟨_,.store 52 (.tmp 7) _,_,_,_,_⟩::_) _ _
     refine yab rfl 52 (.tmp 7) (.tmp 20) rfl w2.heap.size 0 CC ZT _ rfl rfl (Row.new w2 52 ZT) (by have:=HZ4.out;have:=HC4.out;omega) (by rw[yba,HC4.out]) HC1.out ?_
     intro w3 hr hg
     rw[yad (HC4.out.trans HZ4.out.symm)]at hr
     have HA3:=yh (HA2.out.box hg hr)
     have HNf:=yh HA2.out.fresh
     clear hr hg))
 generalize w2.heap.size=g7 at *
 have HDx:=yh (HA3.out.below (Below.refl _ _).drew)
 refine wp_region_noPanic ?_
 refine wp_region_held_drew (S:=fun w'=>w'.cell? ⟨p,0,none⟩=some (.pointer (some ⟨q,0,none⟩))∧Row w' g7 52 CC) (by kernel_rfl) (⟨HDx.out.cells5.1,HDx.out.brow (by simp)⟩) (fun gH=>?_)
 generalize w3.drew=wq at *
 refine yg 0 (.pointer (some ⟨p,0,none⟩)) rfl gH ?_
 refine yg 1 (.pointer (some ⟨p,0,none⟩)) rfl gH ?_
 refine yg 2 (.pointer (some ⟨p,0,none⟩)) rfl gH ?_
 simp only[Act.put,Ya,Yb,Yc,Yd,Ye,Yf]
 refine yg 3 (.pointer (some ⟨p,0,none⟩)) rfl gH ?_
 refine yk 4 (.pointer (some ⟨q,0,none⟩)) rfl (fun w' hSw=>by have hq:=hSw;have hd:=hq.1;go_simp) gH ?_
 refine' yl 5 _ rfl (yieldsIf_load_mid (by rfl) _ _ rfl g7 0 rfl CC _ (fun w' hSw=>(yah hSw.2)) Tryz.underlying52 rfl (by rw[yba,HC4.out])) gH ?_
 simp only[Act.put,Ya,Yb,Yc,Yd,Ye,Yf]
 refine yR 6 (by kernel_rfl) rfl (fun K1 hK1=>?_)
 try simp only[Act.put,Ya,Yb,Yc,Yd,Ye,Yf]
 go_simp
 refine Calls.mono (LC.out _) ?_
 rintro e wc1 ⟨rfl,hb2⟩
 have HDx:=yh (HDx.out.below hb2)
 refine hK1.out _ _ (⟨HDx.out.cells5.1,HDx.out.brow (by simp)⟩) (fun gH=>?_)
 clear hK1 K1
 refine yR 7 (by kernel_rfl) rfl (fun K1 hK1=>?_)
 try simp only[Act.put,Ya,Yb,Yc,Yd,Ye,Yf]
 go_simp
 refine Calls.mono (JA.out _ HDx.out.jn) ?_
 rintro e wc3 ⟨rfl,hjt⟩
 obtain⟨S',hdx⟩:=HDx.out.jrn hjt
 have HDx:=yh hdx
 clear hjt hdx
 refine hK1.out _ _ (⟨HDx.out.cells5.1,HDx.out.brow (by simp)⟩) (fun gH=>?_)
 clear hK1 K1
 refine yR 8 (by kernel_rfl) rfl (fun K1 hK1=>?_)
 try simp only[Act.put,Ya,Yb,Yc,Yd,Ye,Yf]
 go_simp
 refine Calls.mono (HDx.out.did 0) ?_
 rintro e wc4 ⟨rfl,hdx⟩
 have HDx:=yh hdx
 clear hdx
 refine hK1.out _ _ (⟨HDx.out.cells5.1,HDx.out.brow (by simp)⟩) (fun gH=>?_)
 clear hK1 K1
 refine yg 9 (.int .i64 0) rfl gH ?_
 refine wpAnyH_done (by kernel_rfl) ?_ _
 refine NoPanic.normal ?_
 clear gH
 go_wp2_with fail
 generalize wc4=wz at *
 have HDx:=yh (HDx.out.below (Below.refl _ _).drew)
 refine wp_region_noPanic ?_
 refine wp_region_held_drew (S:=fun w'=>Row w' g7 52 CC) (by kernel_rfl) (HDx.out.brow (gx:=g7) (T:=52) (X:=CC) (by simp)) (fun gH=>?_)
 generalize wz.drew=wv at *
 refine yg 0 (.pointer (some ⟨p,0,none⟩)) rfl gH ?_
 simp only[Act.put,Ya,Yb,Yc,Yd,Ye,Yf]
 refine yg 1 (.pointer (some ⟨p,0,none⟩)) rfl gH ?_
 refine yg 2 (.pointer (some ⟨p,0,none⟩)) rfl gH ?_
 refine yg 3 (.pointer (some ⟨p,2,none⟩)) rfl gH ?_
 simp only[Act.put,Ya,Yb,Yc,Yd,Ye,Yf]
 refine' yl 5 _ rfl (yieldsIf_load_mid (by rfl) _ _ rfl g7 0 rfl CC _ (fun w' hSw=>(yah hSw)) Tryz.underlying52 rfl (by rw[yba,HC4.out])) gH ?_
 refine yS 4 6 (by kernel_rfl) rfl rfl (fun K1 hK1=>?_) (fun K1 hK1=>?_)
 · skip
   try simp only[Act.put,Ya,Yb,Yc,Yd,Ye,Yf]
   rw[if_pos (by rfl)]
   have hcx:=HDx.out.cells5.2.2.1
   go_simp
   refine hK1.out _ _ (gH) (fun gH=>?_)
   clear hK1 K1
   clear hcx
   refine yR 6 (by kernel_rfl) rfl (fun K1 hK1=>?_)
   try simp only[Act.put,Ya,Yb,Yc,Yd,Ye,Yf]
   rw[if_pos (by rfl)]
   refine ydd (.tmp 44) rfl CC HC4.out rfl ?_
   have hnr:=Row.new wv 52 CC
   have HDx:=yh (HDx.out.below ((Below.refl wv.heap.size wv).alloc (Nat.le_refl _) (.cells CC.toArray 52)))
   have eH:=HDx.out.brow (gx:=g7) (T:=52) (X:=CC) (by simp)
   generalize wv.alloc (.cells CC.toArray 52)=wb1 at *
   generalize wv.heap.size=gb at *
   refine hK1.out _ _ eH (fun gH=>?_)
   clear hK1 K1
   clear eH
   refine yR 7 (by kernel_rfl) rfl (fun K1 hK1=>?_)
   try simp only[Act.put,Ya,Yb,Yc,Yd,Ye,Yf]
   rw[if_pos (by rfl)]
   refine ygc (.tmp 43) (.tmp 45) rfl c gb (by rw[HCC.out];exact hnr) w0.heap.size (.slice A n cp) cs HDx.out.ct HDx.out.low.size HCl.out rfl rfl ?_
   intro u wi2 ho hc hk
   obtain⟨A3,c3,hue,_,_⟩:=ho.form
   subst hue
   obtain⟨n3,hn3⟩:=yx ((cs ++ [c]).length)
   rw[hn3]at ho hk ⊢
   clear hn3
   have HDy:=yh (HDx.out.cuts ho hc hk)
   have eH:=HDy.out.brow (gx:=g7) (T:=52) (X:=CC) (by simp)
   refine hK1.out _ _ eH (fun gH=>?_)
   clear hK1 K1
   clear eH
   refine yg 8 (.pointer (some ⟨p,0,none⟩)) rfl gH ?_
   refine yg 9 (.pointer (some ⟨p,2,none⟩)) rfl gH ?_
   simp only[Act.put,Ya,Yb,Yc,Yd,Ye,Yf]
   refine yR 10 (by kernel_rfl) rfl (fun K1 hK1=>?_)
   try simp only[Act.put,Ya,Yb,Yc,Yd,Ye,Yf]
   rw[if_pos (by rfl)]
   refine ybc 30 (.tmp 48) (.tmp 46) rfl p 2 StT (StC q B (.slice A n cp) rel (0 != 0)) A3 n3 c3 rfl rfl HDy.out.row (by simp[StC]) (by kernel_rfl) ?_
   intro wt3 hr5 hg5
   have HDz:=yh (HDy.out.set (C':=StC q B (.slice A3 n3 c3) rel false) hg5 hr5)
   have eH:=HDz.out.brow (gx:=g7) (T:=52) (X:=CC) (by simp)
   refine hK1.out _ _ eH (fun gH=>?_)
   clear hK1 K1
   clear eH hr5 hg5
   refine wpAnyH_done (by kernel_rfl) ?_ _
   refine NoPanic.normal ?_
   clear gH
   go_wp2_with (first
    | ((with_reducible show wpList _ _ _ (⟨_,.load 52 (.tmp 7),_,_,_,_⟩::_) _ _);refine yac rfl 52 (.tmp 7) rfl g7 0 (rfl) CC _ (yah (HDz.out.brow (gx:=g7) (T:=52) (X:=CC) (by simp))) Tryz.underlying52 rfl (by rw[yba,HC4.out]) ?_)
    | (
       with_reducible show wpList _ _ _ (⟨_,.store 52 (.tmp 4) _,_,_,_,_⟩::_) _ _
       refine yab rfl 52 (.tmp 4) (.tmp 49) rfl gr 0 CC ZT 52 rfl rfl (HDz.out.brow (T:=52) (X:=ZT) (by simp)) (by have:=HZ4.out;have:=HC4.out;omega) (by rw[yba,HC4.out]) HC1.out ?_
       intro w9 hr hg
       rw[yad (HC4.out.trans HZ4.out.symm)]at hr
       have HS9:=yh hr
       have HD9:=yh ((HDz.out.less (rows':=(gr,52,ZT)::rows) (fun x hx=>List.mem_cons_of_mem _ hx)).write hg hr HNe.out)
       clear hr hg))
   refine bodyPost_ret (yaj rfl _ _ gr 52 CC _ rfl HS9.out Tryz.underlying52 rfl (by rw[yba];simp[HC4.out]) _ rfl) rfl ⟨by rw[HCC.out];rfl,?_⟩
   exact⟨q,B,_,v,dv,_,HD9.out.less (fun x hx=>List.mem_cons_of_mem _ hx)⟩
 · skip
   try simp only[Act.put,Ya,Yb,Yc,Yd,Ye,Yf]
   rw[if_pos (by rfl)]
   refine ydd (.tmp 44) rfl CC HC4.out rfl ?_
   have hnr:=Row.new wv 52 CC
   have HDx:=yh (HDx.out.below ((Below.refl wv.heap.size wv).alloc (Nat.le_refl _) (.cells CC.toArray 52)))
   have eH:=HDx.out.brow (gx:=g7) (T:=52) (X:=CC) (by simp)
   generalize wv.alloc (.cells CC.toArray 52)=wb4 at *
   generalize wv.heap.size=gb at *
   refine hK1.out _ _ eH (fun gH=>?_)
   clear hK1 K1
   clear eH
   refine yR 4 (by kernel_rfl) rfl (fun K1 hK1=>?_)
   try simp only[Act.put,Ya,Yb,Yc,Yd,Ye,Yf]
   rw[if_pos (by rfl)]
   have hcx:=HDx.out.cells5.2.2.1
   go_simp
   refine hK1.out _ _ (gH) (fun gH=>?_)
   clear hK1 K1
   clear hcx
   refine yR 7 (by kernel_rfl) rfl (fun K1 hK1=>?_)
   try simp only[Act.put,Ya,Yb,Yc,Yd,Ye,Yf]
   rw[if_pos (by rfl)]
   refine ygc (.tmp 43) (.tmp 45) rfl c gb (by rw[HCC.out];exact hnr) w0.heap.size (.slice A n cp) cs HDx.out.ct HDx.out.low.size HCl.out rfl rfl ?_
   intro u wi5 ho hc hk
   obtain⟨A3,c3,hue,_,_⟩:=ho.form
   subst hue
   obtain⟨n3,hn3⟩:=yx ((cs ++ [c]).length)
   rw[hn3]at ho hk ⊢
   clear hn3
   have HDy:=yh (HDx.out.cuts ho hc hk)
   have eH:=HDy.out.brow (gx:=g7) (T:=52) (X:=CC) (by simp)
   refine hK1.out _ _ eH (fun gH=>?_)
   clear hK1 K1
   clear eH
   refine yg 8 (.pointer (some ⟨p,0,none⟩)) rfl gH ?_
   refine yg 9 (.pointer (some ⟨p,2,none⟩)) rfl gH ?_
   simp only[Act.put,Ya,Yb,Yc,Yd,Ye,Yf]
   refine yR 10 (by kernel_rfl) rfl (fun K1 hK1=>?_)
   try simp only[Act.put,Ya,Yb,Yc,Yd,Ye,Yf]
   rw[if_pos (by rfl)]
   refine ybc 30 (.tmp 48) (.tmp 46) rfl p 2 StT (StC q B (.slice A n cp) rel (0 != 0)) A3 n3 c3 rfl rfl HDy.out.row (by simp[StC]) (by kernel_rfl) ?_
   intro wt6 hr5 hg5
   have HDz:=yh (HDy.out.set (C':=StC q B (.slice A3 n3 c3) rel false) hg5 hr5)
   have eH:=HDz.out.brow (gx:=g7) (T:=52) (X:=CC) (by simp)
   refine hK1.out _ _ eH (fun gH=>?_)
   clear hK1 K1
   clear eH hr5 hg5
   refine wpAnyH_done (by kernel_rfl) ?_ _
   refine NoPanic.normal ?_
   clear gH
   go_wp2_with (first
    | ((with_reducible show wpList _ _ _ (⟨_,.load 52 (.tmp 7),_,_,_,_⟩::_) _ _);refine yac rfl 52 (.tmp 7) rfl g7 0 (rfl) CC _ (yah (HDz.out.brow (gx:=g7) (T:=52) (X:=CC) (by simp))) Tryz.underlying52 rfl (by rw[yba,HC4.out]) ?_)
    | (
       with_reducible show wpList _ _ _ (⟨_,.store 52 (.tmp 4) _,_,_,_,_⟩::_) _ _
       refine yab rfl 52 (.tmp 4) (.tmp 49) rfl gr 0 CC ZT 52 rfl rfl (HDz.out.brow (T:=52) (X:=ZT) (by simp)) (by have:=HZ4.out;have:=HC4.out;omega) (by rw[yba,HC4.out]) HC1.out ?_
       intro w9 hr hg
       rw[yad (HC4.out.trans HZ4.out.symm)]at hr
       have HS9:=yh hr
       have HD9:=yh ((HDz.out.less (rows':=(gr,52,ZT)::rows) (fun x hx=>List.mem_cons_of_mem _ hx)).write hg hr HNe.out)
       clear hr hg))
   refine bodyPost_ret (yaj rfl _ _ gr 52 CC _ rfl HS9.out Tryz.underlying52 rfl (by rw[yba];simp[HC4.out]) _ rfl) rfl ⟨by rw[HCC.out];rfl,?_⟩
   exact⟨q,B,_,v,dv,_,HD9.out.less (fun x hx=>List.mem_cons_of_mem _ hx)⟩
end
section
open Go.RowKit
theorem Od.ye0 {rs:List Rp}(h:Od.Good rs)(kind:Int)(body:ByteArray)(time:Int):(Od.mk rs kind body time).1.Fits:=by
 by_cases h1:rs≠[]∧time<Od.last rs
 · rw[Od.ydq h1];exact Rp.yal
 by_cases h2:(Od.ask rs kind body).2=0
 · rw[Od.ycj h1 h2]
   unfold Rp.linkE
   by_cases h3:(Od.raw rs kind body time).ok=true
   · rw[if_pos h3]
     have ht:Od.Took rs kind body time (Od.raw rs kind body time).linked (Od.ask rs kind body).1:=⟨h1,h2,h3,rfl,(Od.ydl h2).1⟩
     exact ht.fits h.head
   · rw[if_neg h3];exact Rp.yal
 · rw[Od.ye1 h1 h2];exact Rp.yal
theorem St.add_no {w0 W:World}{p g:Nat}{l:List Jn.Fl}{r:Int}{j:Jn.Jr.J}{rs:List Rp}{cs:List Ct}{rel:Int}{rows:Rws}(h:St w0 W p g l r j rs cs rel false rows)(hT:Tab w0)(hrl:rs.length<1000)(kind time:Int)(body:ByteArray)(hbs:body.size≤140737488351232)(he:(Od.mk rs kind body time).2.2≠0):Calls Tryz.prog 30 #[.pointer (some ⟨p,0,none⟩),.int .i64 kind,.string body,.int .i64 time] W fun e w'=>e=.returned (.tuple #[.agg Rp.zero.cells.toArray,.int .i64 (Od.mk rs kind body time).2.2])∧St w0 w' p g l r j rs cs rel false rows:=by
 obtain⟨q,B,Z,v,dv,cv,h⟩:=h
 have HT:Hid (∀W,Below w0.heap.size w0 W→Tab W):=yh (fun W hW=>hT.below hW hT.pos)
 have HBs:=yh hbs
 have HRl:=yh hrl
 have hzv:=ydz
 have HBt:Hid (Tryz.prog.built 64 []=some Rp.zero.cells.toArray):=yh Rp.yaz
 have HZ68:=yh (Rp.yao Rp.yal.prev Rp.yal.hash)
 have HZ1:=yh (Rp.yan Rp.yal.prev Rp.yal.hash)
 obtain⟨ZT,hZT⟩:=yx (Rp.zero.cells)
 rw[hZT]at hzv HBt HZ68 HZ1
 have HZT:=yh hZT
 clear hZT
 rw[HZT.out]
 have hadd:Od.addR rs kind body time=(Rp.zero,(Od.mk rs kind body time).2.2)∧Od.addL rs kind body time=rs:=⟨by unfold Od.addR;rw[if_neg he],by unfold Od.addL;rw[if_neg he]⟩
 obtain⟨ee,hee⟩:=yx ((Od.mk rs kind body time).2.2)
 rw[hee]at hadd he ⊢
 have dee:(ee != 0)=true:=by simpa using he
 obtain⟨rs2,hrs2⟩ :∃rs2,rs2=rs:=⟨_,rfl⟩
 have CRE:Hid (Od.addR rs kind body time=(Rp.zero,ee)∧Od.addL rs kind body time=rs2):=yh ⟨hadd.1,by rw[hrs2];exact hadd.2⟩
 have HRs:=yh hrs2
 have HCR68:=HZ68
 have HCR1:=HZ1
 clear he hee hadd hrs2 hT hbs hrl
 have HA:=yh (h.alloc 64 ZT)
 have HNe:=yh h.fresh
 clear h
 go_enter Tryz.func30,Tryz.ntmps30
 go_wp2_with fail
 generalize W.alloc (.cells ZT.toArray 64)=W1 at *
 generalize W.heap.size=gr at *
 have WR:=yh HA.out.wrong
 refine WR.out.mono ?_
 rintro _ _ ⟨rfl,rfl⟩
 clear WR
 obtain⟨cq0,cq1,_,_,_⟩:=HA.out.cells5
 have LA:Hid (Calls Tryz.prog 63 #[.pointer (some ⟨B,0,none⟩),.int .i64 kind,.string body,.int .i64 time] W1 fun e w'=>e=.returned (.tuple #[.agg ZT.toArray,.int .i64 ee])∧LTo W1 w' w0.heap.size B v dv rs2):=yh (by
  have:=HA.out.lg.add kind body time HBs.out (HT.out _ HA.out.low) HRl.out
  rw[CRE.out.1,CRE.out.2,HZT.out]at this
  exact this)
 go_wp2_with fail
 refine LA.out.mono ?_
 rintro _ w2 ⟨rfl,hlt⟩
 obtain⟨v2,dv2,ha2⟩:=HA.out.log hlt
 have HA2:=yh ha2
 clear hlt ha2 LA cq0 cq1
 go_wp2_with (first
  | (
     with_reducible show wpList _ _ _ (⟨_,.store 64 (.tmp 11) _,_,_,_,_⟩::_) _ _
     refine yab rfl 64 (.tmp 11) (.tmp 29) rfl w2.heap.size 0 ZT ZT _ rfl rfl (Row.new w2 64 ZT) (by have:=HZ68.out;have:=HZ68.out;omega) (by rw[yaf,HZ68.out]) HZ1.out ?_
     intro w3 hr hg
     rw[yad (HZ68.out.trans HZ68.out.symm)]at hr
     have HA3:=yh (HA2.out.box hg hr)
     clear hr hg)
  | ((with_reducible show wpList _ _ _ (⟨_,.build 64 _,_,_,_,_⟩::_) _ _);refine yak rfl 64 [] rfl (some 33) rfl _ rfl ZT.toArray HBt.out ?_)
  | (
     with_reducible show wpList _ _ _ (⟨_,.store 64 (.tmp 8) _,_,_,_,_⟩::_) _ _
     refine yab rfl 64 (.tmp 8) (.tmp 33) rfl gr 0 ZT ZT 64 rfl rfl (HA3.out.brow (T:=64) (X:=ZT) (by simp)) (by have:=HZ68.out;have:=HZ68.out;omega) (by rw[yaf,HZ68.out]) HZ1.out ?_
     intro w9 hr hg
     rw[yad (HZ68.out.trans HZ68.out.symm)]at hr
     have HS9:=yh hr
     have HD9:=yh ((HA3.out.less (rows':=(gr,64,ZT)::rows) (fun x hx=>List.mem_cons_of_mem _ hx)).write hg hr HNe.out)
     clear hr hg))
 refine bodyPost_ret (yaj rfl _ _ gr 64 ZT _ rfl HS9.out Tryz.underlying64 rfl (by rw[yaf];simp[HZ68.out]) _ rfl) rfl ⟨rfl,?_⟩
 rw[HRs.out]at HD9
 exact⟨q,B,_,_,_,cv,HD9.out.less (fun x hx=>List.mem_cons_of_mem _ hx)⟩
theorem St.add_ok {w0 W:World}{p g:Nat}{l:List Jn.Fl}{r:Int}{j:Jn.Jr.J}{rs:List Rp}{cs:List Ct}{rel:Int}{rows:Rws}(h:St w0 W p g l r j rs cs rel false rows)(hT:Tab w0)(hrl:rs.length<1000)(hjl:j.len≤1000000000)(kind time:Int)(body:ByteArray)(hbs:body.size≤140737488351232)(he:(Od.mk rs kind body time).2.2=0)(hje:(Jn.Jr.addR l r j (Od.mk rs kind body time).1.rcd).2.2.2=0):Calls Tryz.prog 30 #[.pointer (some ⟨p,0,none⟩),.int .i64 kind,.string body,.int .i64 time] W fun e w'=>e=.returned (.tuple #[.agg (Od.mk rs kind body time).1.cells.toArray,.int .i64 0])∧St w0 w' p g (Jn.Jr.addR l r j (Od.mk rs kind body time).1.rcd).1 (Jn.Jr.addR l r j (Od.mk rs kind body time).1.rcd).2.1 (Jn.Jr.addR l r j (Od.mk rs kind body time).1.rcd).2.2.1 (rs ++ [(Od.mk rs kind body time).1]) cs rel false rows:=by
 obtain⟨q,B,Z,v,dv,cv,h⟩:=h
 have HT:Hid (∀W,Below w0.heap.size w0 W→Tab W):=yh (fun W hW=>hT.below hW hT.pos)
 have HBs:=yh hbs
 have HRl:=yh hrl
 have hRf:=Od.ye0 h.lg.good kind body time
 have hadd:Od.addR rs kind body time=((Od.mk rs kind body time).1,0)∧Od.addL rs kind body time=rs ++ [(Od.mk rs kind body time).1]:=⟨by unfold Od.addR;rw[if_pos he],by unfold Od.addL;rw[if_pos he]⟩
 obtain⟨R,hR⟩:=yx ((Od.mk rs kind body time).1)
 rw[hR]at hadd hRf hje ⊢
 have HRf:=yh hRf
 have LC:=yh (fun W hW=>yec R HRf.out W (HT.out W hW))
 have hlr1:=Rp.yc2 hRf.prev hRf.hash
 obtain⟨RC,hRC⟩:=yx (R.rcd)
 rw[hRC]at LC hje hlr1 ⊢
 obtain⟨ad,had⟩:=yx (Jn.Jr.addR l r j RC)
 obtain⟨l2,r2,j2,je⟩:=ad
 have JA:Hid (∀{B:Nat}{Z:Nat→Prop}{g q:Nat}(W:World),Jn.JS W B Z g q l r j→Calls Tryz.prog 28 #[.pointer (some ⟨q,0,none⟩),S RC] W fun e w'=>e=.returned (.int .i64 je)∧Jn.JTo W w' B Z g q l2 r2 j2):=yh (fun W h=>by
  have:=Jn.yq9 h RC (by omega) hjl
  rw[had]at this
  exact this)
 rw[had]at hje ⊢
 simp only at hje
 subst hje
 have HCR68:=yh (Rp.yao hRf.prev hRf.hash)
 have HCR1:=yh (Rp.yan hRf.prev hRf.hash)
 obtain⟨CR,hCR⟩:=yx (R.cells)
 rw[hCR]at LC HCR68 HCR1
 have HCR:=yh hCR
 obtain⟨rs2,hrs2⟩ :∃rs2,rs2=rs ++ [R]:=⟨_,rfl⟩
 have HRs:=yh hrs2
 have CRE:Hid (Od.addR rs kind body time=(R,0)∧Od.addL rs kind body time=rs2):=yh ⟨hadd.1,by rw[hrs2];exact hadd.2⟩
 clear he hadd hrs2 hT hbs hrl hRf hR had hRC hCR hlr1 hjl
 have hzv:=ydz
 have HBt:Hid (Tryz.prog.built 64 []=some Rp.zero.cells.toArray):=yh Rp.yaz
 have HZ68:=yh (Rp.yao Rp.yal.prev Rp.yal.hash)
 have HZ1:=yh (Rp.yan Rp.yal.prev Rp.yal.hash)
 obtain⟨ZT,hZT⟩:=yx (Rp.zero.cells)
 rw[hZT]at hzv HBt HZ68 HZ1
 have HZT:=yh hZT
 clear hZT
 have HA:=yh (h.alloc 64 ZT)
 have HNe:=yh h.fresh
 clear h
 go_enter Tryz.func30,Tryz.ntmps30
 go_wp2_with fail
 generalize W.alloc (.cells ZT.toArray 64)=W1 at *
 generalize W.heap.size=gr at *
 have WR:=yh HA.out.wrong
 refine WR.out.mono ?_
 rintro _ _ ⟨rfl,rfl⟩
 clear WR
 obtain⟨cq0,cq1,_,_,_⟩:=HA.out.cells5
 have LA:Hid (Calls Tryz.prog 63 #[.pointer (some ⟨B,0,none⟩),.int .i64 kind,.string body,.int .i64 time] W1 fun e w'=>e=.returned (.tuple #[.agg CR.toArray,.int .i64 0])∧LTo W1 w' w0.heap.size B v dv rs2):=yh (by
  have:=HA.out.lg.add kind body time HBs.out (HT.out _ HA.out.low) HRl.out
  rw[CRE.out.1,CRE.out.2,HCR.out]at this
  exact this)
 go_wp2_with fail
 refine LA.out.mono ?_
 rintro _ w2 ⟨rfl,hlt⟩
 obtain⟨v2,dv2,ha2⟩:=HA.out.log hlt
 have HA2:=yh ha2
 clear hlt ha2 LA cq0 cq1
 go_wp2_with (first
  | (
     with_reducible show wpList _ _ _ (⟨_,.store 64 (.tmp 11) _,_,_,_,_⟩::_) _ _
     refine yab rfl 64 (.tmp 11) (.tmp 29) rfl w2.heap.size 0 CR ZT _ rfl rfl (Row.new w2 64 ZT) (by have:=HZ68.out;have:=HCR68.out;omega) (by rw[yaf,HCR68.out]) HCR1.out ?_
     intro w3 hr hg
     rw[yad (HCR68.out.trans HZ68.out.symm)]at hr
     have HA3:=yh (HA2.out.box hg hr)
     clear hr hg))
 generalize w2.heap.size=g7 at *
 have HDx:=yh (HA3.out.below (Below.refl _ _).drew)
 refine wp_region_noPanic ?_
 refine wp_region_held_drew (S:=fun w'=>w'.cell? ⟨p,0,none⟩=some (.pointer (some ⟨q,0,none⟩))∧Row w' g7 64 CR) (by kernel_rfl) (⟨HDx.out.cells5.1,HDx.out.brow (by simp)⟩) (fun gH=>?_)
 generalize w3.drew=wq at *
 refine yg 0 (.pointer (some ⟨p,0,none⟩)) rfl gH ?_
 refine yg 1 (.pointer (some ⟨p,0,none⟩)) rfl gH ?_
 simp only[Act.put,Ya,Yb,Yc,Yd,Ye,Yf]
 refine yg 2 (.pointer (some ⟨p,0,none⟩)) rfl gH ?_
 refine yg 3 (.pointer (some ⟨p,0,none⟩)) rfl gH ?_
 refine yk 4 (.pointer (some ⟨q,0,none⟩)) rfl (fun w' hSw=>by have hq:=hSw;have hd:=hq.1;go_simp) gH ?_
 simp only[Act.put,Ya,Yb,Yc,Yd,Ye,Yf]
 refine' yl 5 _ rfl (yieldsIf_load_mid (by rfl) _ _ rfl g7 0 rfl CR _ (fun w' hSw=>(yah hSw.2)) Tryz.underlying64 rfl (by rw[yaf,HCR68.out])) gH ?_
 refine yR 6 (by kernel_rfl) rfl (fun K1 hK1=>?_)
 try simp only[Act.put,Ya,Yb,Yc,Yd,Ye,Yf]
 go_simp
 refine Calls.mono (LC.out _ HDx.out.low) ?_
 rintro e wc1 ⟨rfl,hb2⟩
 have HDx:=yh (HDx.out.below hb2)
 refine hK1.out _ _ (⟨HDx.out.cells5.1,HDx.out.brow (by simp)⟩) (fun gH=>?_)
 clear hK1 K1
 refine yR 7 (by kernel_rfl) rfl (fun K1 hK1=>?_)
 try simp only[Act.put,Ya,Yb,Yc,Yd,Ye,Yf]
 go_simp
 refine Calls.mono (JA.out _ HDx.out.jn) ?_
 rintro e wc3 ⟨rfl,hjt⟩
 obtain⟨Z2,hdx⟩:=HDx.out.jrn hjt
 have HDx:=yh hdx
 clear hjt hdx
 refine hK1.out _ _ (⟨HDx.out.cells5.1,HDx.out.brow (by simp)⟩) (fun gH=>?_)
 clear hK1 K1
 refine yR 8 (by kernel_rfl) rfl (fun K1 hK1=>?_)
 try simp only[Act.put,Ya,Yb,Yc,Yd,Ye,Yf]
 go_simp
 refine Calls.mono (HDx.out.did 0) ?_
 rintro e wc4 ⟨rfl,hdx⟩
 have HDx:=yh hdx
 clear hdx
 refine hK1.out _ _ (⟨HDx.out.cells5.1,HDx.out.brow (by simp)⟩) (fun gH=>?_)
 clear hK1 K1
 refine yg 9 (.int .i64 0) rfl gH ?_
 refine wpAnyH_done (by kernel_rfl) ?_ _
 refine NoPanic.normal ?_
 clear gH
 go_wp2_with (first
  | ((with_reducible show wpList _ _ _ (⟨_,.load 64 (.tmp 11),_,_,_,_⟩::_) _ _);refine yac rfl 64 (.tmp 11) rfl g7 0 (rfl) CR _ (yah (HDx.out.brow (gx:=g7) (T:=64) (X:=CR) (by simp))) Tryz.underlying64 rfl (by rw[yaf,HCR68.out]) ?_)
  | (
     with_reducible show wpList _ _ _ (⟨_,.store 64 (.tmp 8) _,_,_,_,_⟩::_) _ _
     refine yab rfl 64 (.tmp 8) (.tmp 60) rfl gr 0 CR ZT 64 rfl rfl (HDx.out.brow (T:=64) (X:=ZT) (by simp)) (by have:=HZ68.out;have:=HCR68.out;omega) (by rw[yaf,HCR68.out]) HCR1.out ?_
     intro w9 hr hg
     rw[yad (HCR68.out.trans HZ68.out.symm)]at hr
     have HS9:=yh hr
     have HD9:=yh ((HDx.out.less (rows':=(gr,64,ZT)::rows) (fun x hx=>List.mem_cons_of_mem _ hx)).write hg hr HNe.out)
     clear hr hg))
 refine bodyPost_ret (yaj rfl _ _ gr 64 CR _ rfl HS9.out Tryz.underlying64 rfl (by rw[yaf];simp[HCR68.out]) _ rfl) rfl ⟨by rw[HCR.out];rfl,?_⟩
 rw[HRs.out]at HD9
 exact⟨q,B,_,_,_,cv,HD9.out.less (fun x hx=>List.mem_cons_of_mem _ hx)⟩
end
section
open Go.RowKit
theorem StAt.safe_ok {w0 W:World}{p q B g:Nat}{S:Nat→Prop}{v dv cv:Value}{l:List Jn.Fl}{r:Int}{j:Jn.Jr.J}{rs:List Rp}{cs:List Ct}{rel:Int}{rows:Rws}{brk:Bool}(h:StAt w0 W p q B g S v dv cv l r j rs cs (StC q B cv rel brk) rows):Calls Tryz.prog 52 #[.pointer (some ⟨p,0,none⟩),.int .i64 0] W fun r' w'=>r'=.returned (.int .i64 0)∧StAt w0 w' p q B g S v dv cv l r j rs cs (StC q B cv rs.length false) rows:=by
 have DD:=yh (h.did 0)
 rw[show ((0:Int) != 0)=false from rfl]at DD
 clear h
 go_enter Tryz.func52,Tryz.ntmps52
 go_wp2_with fail
 refine DD.out.mono ?_
 rintro _ w1 ⟨rfl,hs⟩
 have HS:=yh hs
 clear hs DD
 obtain⟨c0,c1,c2,c3,c4⟩:=HS.out.cells5
 have LN:=yh HS.out.lg.lenC
 obtain⟨n,hn⟩:=yx (rs.length)
 rw[hn]at LN
 have HN:=yh hn
 clear c0 c2 c3 c4 hn
 go_wp2_with fail
 refine LN.out.mono ?_
 rintro _ _ ⟨rfl,rfl⟩
 have HR:=yh HS.out.row
 clear LN c1
 go_wp2_with ((with_reducible show wpList _ _ _ (⟨_, .store 3 (.tmp 16) _, _, _, _, _⟩ :: _) _ _)
              refine ycf rfl 3 (.tmp 16) (.tmp 14) rfl p 3 StT _ (.int .i64 n) rfl rfl rfl rfl HR.out (by simp[StC]) rfl ?_
              intro w2 hr hg
              have HT:=yh (HS.out.set (C':=StC q B cv n false) hg hr)
              clear hr hg)
 go_ret
 exact⟨rfl,by rw[HN.out];exact HT.out⟩
theorem St.sync_ok {w0 W:World}{p g:Nat}{l:List Jn.Fl}{r:Int}{j:Jn.Jr.J}{rs:List Rp}{cs:List Ct}{rel:Int}{rows:Rws}(h:St w0 W p g l r j rs cs rel false rows)(hje:(Jn.Jr.syncJ l r j).2.2.2=0):Calls Tryz.prog 26 #[.pointer (some ⟨p,0,none⟩)] W fun e w'=>e=.returned (.int .i64 0)∧St w0 w' p g (Jn.Jr.syncJ l r j).1 (Jn.Jr.syncJ l r j).2.1 (Jn.Jr.syncJ l r j).2.2.1 rs cs rs.length false rows:=by
 obtain⟨q,B,Z,v,dv,cv,h⟩:=h
 have HA:=yh h
 clear h
 have WR:=yh HA.out.wrong
 have JY:=yh (Jn.ytc HA.out.jn)
 obtain⟨sy,hsy⟩:=yx (Jn.Jr.syncJ l r j)
 obtain⟨l2,r2,j2,je⟩:=sy
 rw[hsy]at JY hje ⊢
 simp only at hje
 subst hje
 obtain⟨c0,c1,c2,c3,c4⟩:=HA.out.cells5
 clear hsy c1 c2 c3 c4
 have JY':Hid (Calls Tryz.prog 29 #[.pointer (some ⟨q,0,none⟩)] W fun e w'=>e=.returned (.int .i64 0)∧Jn.JTo W w' w0.heap.size Z g q l2 r2 j2):=JY
 clear JY
 go_enter Tryz.func26,Tryz.ntmps26
 go_wp2_with fail
 refine WR.out.mono ?_
 rintro _ _ ⟨rfl,rfl⟩
 clear WR
 go_wp2_with fail
 refine JY'.out.mono ?_
 rintro _ w1 ⟨rfl,hjt⟩
 obtain⟨Z2,ha⟩:=HA.out.jrn hjt
 have HA1:=yh ha
 clear hjt ha JY' c0
 go_wp2_with fail
 refine HA1.out.safe_ok.mono ?_
 rintro _ w2 ⟨rfl,ha⟩
 have HA2:=yh ha
 clear ha
 go_wp2_with fail
 go_ret
 exact⟨rfl,q,B,Z2,v,dv,cv,HA2.out⟩
theorem ysk (q B:Nat):Tryz.prog.built StT [(0,.pointer (some ⟨q,0,none⟩)),(1,.pointer (some ⟨B,0,none⟩))]=some (StC q B (.slice none 0 0) 0 false).toArray:=by kernel_rfl
theorem LogAt.mono {w:World}{base base' B:Nat}{v dv:Value}{rs:List Rp}(h:LogAt w base B v dv rs)(hb:base'≤base):LogAt w base' B v dv rs:=
 ⟨h.row,h.own.mono hb,h.dow.mono hb,h.good,h.len,Nat.le_trans hb h.lo⟩
theorem yh3 {w0 W:World}{g:Nat}{S0:Nat→Prop}(hd:Jn.DiskS W w0.heap.size S0 g [] (-1))(hlow:Below w0.heap.size w0 W):Calls Tryz.prog 25 #[.pointer (some ⟨g,0,none⟩)] W fun e w' =>∃p,e=.returned (.tuple #[.pointer (some ⟨p,0,none⟩),.int .i64 0])∧St w0 w' p g [] (-1) ⟨0,0,false⟩ [] [] 0 false []:=by
 have JO:Hid (Calls Tryz.prog 27 #[.pointer (some ⟨g,0,none⟩),.string ⟨#[108,111,103]⟩] W fun e w'=>Jn.OpenTo W w' w0.heap.size S0 g [] (-1) ⟨0,0,false⟩ [] e):=yh (Jn.ytd (o:=none) (x:=none) hd (by decide))
 have HD:=yh hd
 have HL:=yh hlow
 clear hd hlow
 go_enter Tryz.func25,Tryz.ntmps25
 go_wp2_with fail
 go_step3
 go_wp2_with fail
 refine JO.out.mono ?_
 rintro _ w1 ⟨q,vv,S1,rfl,hjs,hq1,hq2,hS1,hch,A,c,rfl,_⟩
 have hlow1:Below w0.heap.size w0 w1:=ybt HL.out hch.out HL.out.size (fun k hk=>(HD.out.1 k hk).1)
 have HJ:=yh hjs
 have HQ:Hid (w0.heap.size≤q∧q<w1.heap.size):=yh ⟨Nat.le_trans HL.out.size hq1,hq2⟩
 have HL1:=yh hlow1
 have NW:=yh (yh6 w1)
 have HBu:=yh (ysk q w1.heap.size)
 have hlz:([]:List (List UInt8)).length=0:=rfl
 rw[hlz]
 clear hjs hq1 hq2 hS1 hch hlow1 JO hlz
 go_wp2_with fail
 refine NW.out.mono ?_
 rintro _ w2 ⟨rfl,hlg,hb2⟩
 have HG:=yh hlg
 have HB2:=yh hb2
 clear hlg hb2 NW
 obtain⟨CS,hCS⟩:=yx (StC q w1.heap.size (.slice none 0 0) 0 false)
 have eCS:CS.toArray=#[.pointer (some ⟨q,0,none⟩),.pointer (some ⟨w1.heap.size,0,none⟩),.slice none 0 0,.int .i64 0,.bool false]:=by rw[←hCS];rfl
 clear HBu
 have hb3:=(Below.refl w2.heap.size w2).alloc (Nat.le_refl _) (.cells CS.toArray StT)
 have hst:StAt w0 (w2.alloc (.cells CS.toArray StT)) w2.heap.size q w1.heap.size g S1 (.slice none 0 0) (.slice none 0 0) (.slice none 0 0) [] (-1) ⟨0,0,false⟩ [] [] CS []:=by
  have hs :∀k,S1 k→w0.heap.size≤k∧k<w1.heap.size:=HJ.out.disk.1
  refine⟨(HJ.out.below HB2.out).below hb3,(HG.out.mono HL1.out.size).below hb3,OwnL.nil _ _ _ _ _,Row.new w2 StT CS,yaa (yaa HL1.out HB2.out) hb3,Nat.le_trans HL1.out.size HB2.out.size,HQ.out.1,fun k hk=>⟨?_,?_,?_⟩,by simp⟩
  · rintro(e|e|e)
    · have:=(hs k hk).2;omega
    · cases e
    · cases e
  · have:=(hs k hk).2;have:=HB2.out.size;omega
  · intro e;cases e
 have HS:=yh hst
 have HRw:=yh hst.row
 have c1:(w2.alloc (.cells CS.toArray StT)).cell? ⟨w2.heap.size,1,none⟩=some (.pointer (some ⟨w1.heap.size,0,none⟩)):=by rw[←hCS]at hst ⊢;exact hst.cells5.2.1
 have LN:=yh hst.lg.lenC
 have HCS:=yh hCS
 clear hst hb3 hCS
 rw[eCS]at HS HRw c1 LN
 clear eCS
 go_wp2_with fail
 go_step3
 go_wp2_with fail
 generalize w2.alloc (.cells #[.pointer (some ⟨q,0,none⟩),.pointer (some ⟨w1.heap.size,0,none⟩),.slice none 0 0,.int .i64 0,.bool false] StT)=w3 at *
 generalize w2.heap.size=p at *
 generalize w1.heap.size=B at *
 have LN':Hid (Calls Tryz.prog 41 #[.pointer (some ⟨B,0,none⟩)] w3 fun e w'=>e=.returned (.int .i64 0)∧w3=w'):=LN
 clear LN
 refine LN'.out.mono ?_
 rintro _ _ ⟨rfl,rfl⟩
 clear LN' c1
 go_wp2_with ((with_reducible show wpList _ _ _ (⟨_, .store 3 (.tmp 60) _, _, _, _, _⟩ :: _) _ _)
              refine ycf rfl 3 (.tmp 60) (.tmp 58) rfl p 3 StT _ (.int .i64 0) rfl rfl rfl rfl HRw.out (by rw[←HCS.out];simp[StC]) rfl ?_
              intro w4 hr hg
              have HT:=yh (HS.out.set (C':=StC q B (.slice none 0 0) 0 false) hg (by rw[←HCS.out]at hr;exact hr))
              clear hr hg)
 rw[Exit.noGoto_ret]
 go_ret2
 exact⟨p,rfl,q,B,S1,_,_,_,HT.out⟩
end
section
open Go.RowKit
theorem yrx (o:Option (List UInt8×Int))(n m:Nat)(s:List UInt8)(hs:s.length≤1000)(ho:(Jn.Jr.by_ o).length≤1000000):Jn.Jr.addR (Jn.Jr.St o none) (-1) ⟨n,m,false⟩ s=(Jn.Jr.St (some (Jn.Jr.by_ o++Jn.Jr.lay n s,Jn.Jr.sf o)) none,-1,⟨n+1,m,false⟩,0):=by
 have hl:=Jn.Jr.lay_le n s
 have ha:Jn.appendR (Jn.Jr.St o none) (-1) Jn.Jr.nj (Jn.Jr.lay n s)=(Jn.Jr.St (some (Jn.Jr.by_ o++Jn.Jr.lay n s,Jn.Jr.sf o)) none,-1,0):=by
  rw[Jn.Jr.append_j (by decide),if_neg (by omega)]
  rfl
 unfold Jn.Jr.addR
 rw[if_neg (by simp),if_neg (by omega),ha,if_neg (by simp)]
theorem ysh (p:List UInt8×Int)(n m:Nat)(hn:n≠0):Jn.Jr.syncJ (Jn.Jr.St (some p) none) (-1) ⟨n,m,false⟩=(Jn.Jr.St (some (p.1,(p.1.length:Int))) none,-1,⟨n,n,false⟩,0):=by
 have ha:Jn.syncR (Jn.Jr.St (some p) none) (-1) Jn.Jr.nj=(Jn.Jr.St (some (p.1,(p.1.length:Int))) none,-1,0):=by
  rw[Jn.Jr.sync_j (by decide)]
  rfl
 unfold Jn.Jr.syncJ
 rw[if_neg (by simp),if_neg hn,ha,if_neg (by simp)]
def StUp (w0 W:World)(p g:Nat)(N:Nat)(n:Nat)(rs:List Rp)(cs:List Ct)(rel:Int)(rows:Rws):Prop:=
 ∃o m,(Jn.Jr.by_ o).length≤N∧(n≠0→o≠none)∧St w0 W p g (Jn.Jr.St o none) (-1) ⟨n,m,false⟩ rs cs rel false rows
section
variable {w0 W W' : World} {p g N n : Nat} {rs : List Rp} {cs : List Ct} {rel : Int} {rows rows' : Rws}
theorem StUp.low (h:StUp w0 W p g N n rs cs rel rows):Below w0.heap.size w0 W:=by
 obtain⟨o,m,_,_,h⟩:=h
 exact h.low
theorem StUp.below (h:StUp w0 W p g N n rs cs rel rows)(hb:Below W.heap.size W W'):StUp w0 W' p g N n rs cs rel rows:=by
 obtain⟨o,m,h1,h2,h⟩:=h
 exact⟨o,m,h1,h2,h.below hb⟩
theorem StUp.brow (h:StUp w0 W p g N n rs cs rel rows){gx:Nat}{T:TypeId}{X:List Value}(hx:(gx,T,X)∈rows):Row W gx T X:=by
 obtain⟨o,m,h1,h2,h⟩:=h
 exact h.brow hx
theorem StUp.less (h:StUp w0 W p g N n rs cs rel rows)(hs :∀x∈rows',x∈rows):StUp w0 W p g N n rs cs rel rows':=by
 obtain⟨o,m,h1,h2,h⟩:=h
 exact⟨o,m,h1,h2,h.less hs⟩
theorem StUp.alloc (h:StUp w0 W p g N n rs cs rel rows)(T:TypeId)(X:List Value):StUp w0 (W.alloc (.cells X.toArray T)) p g N n rs cs rel ((W.heap.size,T,X)::rows):=by
 obtain⟨o,m,h1,h2,h⟩:=h
 exact⟨o,m,h1,h2,h.alloc T X⟩
theorem StUp.box {T:TypeId}{X Z:List Value}(h:StUp w0 W p g N n rs cs rel rows)(hg:(W.alloc (.cells Z.toArray T)).grownBy W' (some W.heap.size))(hr:Row W' W.heap.size T X):StUp w0 W' p g N n rs cs rel ((W.heap.size,T,X)::rows):=by
 obtain⟨o,m,h1,h2,h⟩:=h
 exact⟨o,m,h1,h2,h.box hg hr⟩
theorem StUp.add (h:StUp w0 W p g N n rs cs rel rows)(hT:Tab w0)(hrl:rs.length<1000)(hN:N≤1000000)(hn:n≤1000000)(kind time:Int)(body:ByteArray)(hbs:body.size≤140737488351232)(R:Rp)(hm:(Od.mk rs kind body time).1=R)(he:(Od.mk rs kind body time).2.2=0):
 Calls Tryz.prog 30 #[.pointer (some ⟨p,0,none⟩),.int .i64 kind,.string body,.int .i64 time] W fun e w'=>e=.returned (.tuple #[.agg R.cells.toArray,.int .i64 0])∧StUp w0 w' p g (N+2000) (n+1) (rs ++ [R]) cs rel rows:=by
 obtain⟨o,m,h1,h2,h⟩:=h
 have hg:Od.Good rs:=by
  obtain⟨q,B,Z,v,dv,cv,h⟩:=h
  exact h.lg.good
 have hf:=Od.ye0 hg kind body time
 have hr:=Rp.yc2 hf.prev hf.hash
 have ha:=yrx o n m (Od.mk rs kind body time).1.rcd hr (by omega)
 refine(h.add_ok hT hrl (by show n≤_;omega) kind time body hbs he (by rw[ha])).mono ?_
 rintro e w' ⟨rfl,hs⟩
 rw[ha,hm]at hs
 rw[hm]
 rw[hm]at hr
 refine⟨rfl,some (Jn.Jr.by_ o++Jn.Jr.lay n R.rcd,Jn.Jr.sf o),m,?_,fun _=>by simp,hs⟩
 have:=Jn.Jr.lay_le n R.rcd
 show (Jn.Jr.by_ o++Jn.Jr.lay n R.rcd).length≤_
 rw[List.length_append]
 omega
theorem StUp.cutY (h:StUp w0 W p g N n rs cs rel rows)(hc:CtsOk cs)(hrl:rs.length≤1000)(hN:N≤1000000)(hn:n≤1000000)(nn:Int)(c:Ct)(hm:ctNext rs cs nn=(c,0)):
 Calls Tryz.prog 31 #[.pointer (some ⟨p,0,none⟩),.int .i64 nn] W fun e w'=>e=.returned (.tuple #[.agg c.cells.toArray,.int .i64 0])∧StUp w0 w' p g (N+2000) (n+1) rs (cs ++ [c]) rel rows:=by
 obtain⟨o,m,h1,h2,h⟩:=h
 have hr:=Ct.yc2 (ctNext rs cs nn).1
 have ha:=yrx o n m (ctNext rs cs nn).1.rcd hr (by omega)
 refine(h.cut_ok hc hrl (by show n≤_;omega) nn (by rw[hm]) (by rw[ha])).mono ?_
 rintro e w' ⟨rfl,hs⟩
 rw[ha,hm]at hs
 rw[hm]
 rw[hm]at hr
 refine⟨rfl,some (Jn.Jr.by_ o++Jn.Jr.lay n c.rcd,Jn.Jr.sf o),m,?_,fun _=>by simp,hs⟩
 have:=Jn.Jr.lay_le n c.rcd
 show (Jn.Jr.by_ o++Jn.Jr.lay n c.rcd).length≤_
 rw[List.length_append]
 simp only at hr
 omega
theorem StUp.cutN (h:StUp w0 W p g N n rs cs rel rows)(hc:CtsOk cs)(nn:Int)(x:Int)(hm:(ctNext rs cs nn).2=x)(hx:x≠0):
 Calls Tryz.prog 31 #[.pointer (some ⟨p,0,none⟩),.int .i64 nn] W fun e w'=>e=.returned (.tuple #[.agg Ct.zero.cells.toArray,.int .i64 x])∧StUp w0 w' p g N n rs cs rel rows:=by
 obtain⟨o,m,h1,h2,h⟩:=h
 refine(h.cut_no hc nn (by rw[hm];exact hx)).mono ?_
 rintro e w' ⟨rfl,hs⟩
 rw[hm]
 exact⟨rfl,o,m,h1,h2,hs⟩
theorem StUp.sync (h:StUp w0 W p g N n rs cs rel rows)(hn:n≠0):
 Calls Tryz.prog 26 #[.pointer (some ⟨p,0,none⟩)] W fun e w'=>e=.returned (.int .i64 0)∧StUp w0 w' p g N n rs cs rs.length rows:=by
 obtain⟨o,m,h1,h2,h⟩:=h
 cases o with
 | none=>exact absurd rfl (h2 hn)
 | some pr=>
   have ha:=ysh pr n m hn
   refine(h.sync_ok (by rw[ha])).mono ?_
   rintro e w' ⟨rfl,hs⟩
   rw[ha]at hs
   exact⟨rfl,some (pr.1,(pr.1.length:Int)),n,h1,fun _=>by simp,hs⟩
theorem StUp.released (h:StUp w0 W p g N n rs cs rel rows):Calls Tryz.prog 17 #[.pointer (some ⟨p,0,none⟩)] W fun e w'=>e=.returned (.int .i64 rel)∧W=w':=by
 obtain⟨o,m,h1,h2,q,B,Z,v,dv,cv,h⟩:=h
 exact h.released
end
def WC (g p:Nat):List Value:=[.pointer (some ⟨g,0,none⟩),.pointer (some ⟨p,0,none⟩),.slice none 0 0,.slice none 0 0,.int .i64 0,.int .i64 0,.bool false]
theorem yn8 (w:World):Calls Tryz.prog 9 #[] w fun e w' =>∃g p m,e=.returned (.pointer (some ⟨m,0,none⟩))∧StUp w w' p g 0 0 [] [] 0 [(m,32,WC g p)]:=by
 have DN:=yh (Jn.new9 w w.heap.size (Nat.le_refl _))
 go_enter Tryz.func9,Tryz.ntmps9
 go_wp2_with fail
 refine DN.out.mono ?_
 rintro _ w1 ⟨rfl,hd,hb,_⟩
 have OP:=yh (yh3 hd hb)
 clear hd hb DN
 generalize w.heap.size+1=g at *
 go_wp2_with fail
 refine OP.out.mono ?_
 rintro _ w2 ⟨p,rfl,hs⟩
 have HU:Hid (StUp w w2 p g 0 0 [] [] 0 []):=yh ⟨none,0,Nat.le_refl _,fun q=>absurd rfl q,hs⟩
 clear hs OP
 go_wp2_with fail
 go_ret
 exact⟨g,p,w2.heap.size,rfl,HU.out.alloc 32 (WC g p)⟩
theorem yjk :∃(R1 R2:Rp) (c:Ct),(Od.mk [] 2 ⟨#[97]⟩ 3).1=R1∧(Od.mk [] 2 ⟨#[97]⟩ 3).2.2=0∧(Od.mk [R1] 2 ⟨#[98]⟩ 3).1=R2∧(Od.mk [R1] 2 ⟨#[98]⟩ 3).2.2=0∧R1.Fits∧R2.Fits∧R1.index=0∧ctNext [R1,R2] [] 1=(c,0)∧c.count=1∧CtsOk [c]∧(ctNext [R1,R2] [c] 2).2=4:=by
 have hask:(Od.ask [] 2 ⟨#[97]⟩)=(-1,0):=rfl
 have hok:(Od.raw [] 2 ⟨#[97]⟩ 3).ok=true:=by
  rw[Rp.ydg]
  exact⟨.inr rfl,⟨by decide,by decide⟩,⟨by decide,by decide⟩,by decide⟩
 have hm:Od.mk [] 2 ⟨#[97]⟩ 3=((Od.raw [] 2 ⟨#[97]⟩ 3).linked,-1,0):=by
  rw[Od.ycj (fun h=>h.1 rfl) (by rw[hask]),hask]
  unfold Rp.linkE
  rw[if_pos hok]
 obtain⟨R1,hR1⟩:=yx ((Od.raw [] 2 ⟨#[97]⟩ 3).linked)
 rw[hR1]at hm
 have ht:=Od.yfd hm
 have hf1:=ht.fits (by rfl)
 have hi1:R1.index=0:=by rw[ht.index];rfl
 have hti:R1.time=3:=ht.timeE
 have hb1:Od.by_ R1 = -1:=ht.by
 have hask2:(Od.ask [R1] 2 ⟨#[98]⟩)=(-1,0):=by unfold Od.ask;rw[if_neg (by decide)]
 have hok2:(Od.raw [R1] 2 ⟨#[98]⟩ 3).ok=true:=by
  rw[Rp.ydg]
  exact⟨.inr rfl,⟨by show (0:Int)≤(([R1]:List Rp).length:Int);simp,by show (([R1]:List Rp).length:Int)≤_;simp⟩,⟨by show (0:Int)≤3;decide,by show (3:Int)≤_;decide⟩,by show ((⟨#[98]⟩:ByteArray).size:Int)≤_;decide⟩
 have hl1:Od.last [R1]=3:=hti
 have hm2:Od.mk [R1] 2 ⟨#[98]⟩ 3=((Od.raw [R1] 2 ⟨#[98]⟩ 3).linked,-1,0):=by
  rw[Od.ycj (fun h=>by rw[hl1]at h;exact absurd h.2 (by decide)) (by rw[hask2]),hask2]
  unfold Rp.linkE
  rw[if_pos hok2]
 obtain⟨R2,hR2⟩:=yx ((Od.raw [R1] 2 ⟨#[98]⟩ 3).linked)
 rw[hR2]at hm2
 have hg1:Od.Good [R1]:=by
  have:=Od.Good.nil.push hm
  rwa[List.nil_append]at this
 have hf2:=(Od.yfd hm2).fits hg1.head
 refine⟨R1,R2,⟨0,0,Od.taken [R1,R2] 0,1⟩,by rw[hm],by rw[hm],by rw[hm2],by rw[hm2],hf1,hf2,hi1,rfl,rfl,⟨by simp,fun c hc=>?_⟩,rfl⟩
 rw[List.mem_singleton]at hc
 subst hc
 exact⟨Int.le_refl _,by simp,by simp,by simp⟩
theorem yl8 (w:World)(hT:Tab w):Calls Tryz.prog 10 #[] w fun e w'=>e=.returned (.bool true)∧Below w.heap.size w w':=by
 obtain⟨R1,R2,c,m1,e1,m2,e2,f1,f2,i1,k1,n1,ok1,k2⟩:=yjk
 have MD:=yh (yn8 w)
 have A1:Hid (∀W p g rows,StUp w W p g 0 0 [] [] 0 rows→Calls Tryz.prog 30 #[.pointer (some ⟨p,0,none⟩),.int .i64 2,.string ⟨#[97]⟩,.int .i64 3] W fun e w'=>e=.returned (.tuple #[.agg R1.cells.toArray,.int .i64 0])∧StUp w w' p g 2000 1 [R1] [] 0 rows):=yh (fun W p g rows h=>h.add hT (by simp) (by omega) (by omega) 2 3 ⟨#[97]⟩ (by decide) R1 m1 e1)
 have A2:Hid (∀W p g rows,StUp w W p g 2000 1 [R1] [] 0 rows→Calls Tryz.prog 30 #[.pointer (some ⟨p,0,none⟩),.int .i64 2,.string ⟨#[98]⟩,.int .i64 3] W fun e w'=>e=.returned (.tuple #[.agg R2.cells.toArray,.int .i64 0])∧StUp w w' p g 4000 2 [R1,R2] [] 0 rows):=yh (fun W p g rows h=>h.add hT (by simp) (by omega) (by omega) 2 3 ⟨#[98]⟩ (by decide) R2 m2 e2)
 have C1:Hid (∀W p g rows,StUp w W p g 4000 2 [R1,R2] [] 0 rows→Calls Tryz.prog 31 #[.pointer (some ⟨p,0,none⟩),.int .i64 1] W fun e w'=>e=.returned (.tuple #[.agg c.cells.toArray,.int .i64 0])∧StUp w w' p g 6000 3 [R1,R2] [c] 0 rows):=yh (fun W p g rows h=>h.cutY ⟨by simp,by simp⟩ (by simp) (by omega) (by omega) 1 c k1)
 have C2:Hid (∀W p g rows,StUp w W p g 6000 3 [R1,R2] [c] 0 rows→Calls Tryz.prog 31 #[.pointer (some ⟨p,0,none⟩),.int .i64 2] W fun e w'=>e=.returned (.tuple #[.agg Ct.zero.cells.toArray,.int .i64 4])∧StUp w w' p g 6000 3 [R1,R2] [c] 0 rows):=yh (fun W p g rows h=>h.cutN ok1 2 4 k2 (by decide))
 have SY:Hid (∀W p g rows,StUp w W p g 6000 3 [R1,R2] [c] 0 rows→Calls Tryz.prog 26 #[.pointer (some ⟨p,0,none⟩)] W fun e w'=>e=.returned (.int .i64 0)∧StUp w w' p g 6000 3 [R1,R2] [c] 2 rows):=yh (fun W p g rows h=>h.sync (by decide))
 have RL:Hid (∀W p g rows rel,StUp w W p g 6000 3 [R1,R2] [c] rel rows→Calls Tryz.prog 17 #[.pointer (some ⟨p,0,none⟩)] W fun e w'=>e=.returned (.int .i64 rel)∧W=w'):=yh (fun W p g rows rel h=>h.released)
 have HX1:Hid (∀(W:World) gq,Row W gq 64 R1.cells→W.cell? ⟨gq,0,none⟩=some (.int .i64 0)):=yh (fun W gq h=>by have:=yah h 0 _ rfl;rw[i1]at this;exact this)
 have HX2:Hid (∀(W:World) gq,Row W gq 52 c.cells→W.cell? ⟨gq,3,none⟩=some (.int .i64 1)):=yh (fun W gq h=>by have:=yah h 3 _ rfl;rw[n1]at this;exact this)
 have HF1:=yh (Rp.yao f1.prev f1.hash)
 have HF2:=yh (Rp.yao f2.prev f2.hash)
 have HO1:=yh (Rp.yan f1.prev f1.hash)
 have HO2:=yh (Rp.yan f2.prev f2.hash)
 have HC4:Hid (c.cells.length=4):=yh rfl
 have HC1:=yh (Ct.one c)
 have hzv:=ydz
 have HBt:Hid (Tryz.prog.built 64 []=some Rp.zero.cells.toArray):=yh Rp.yaz
 have HZ68:=yh (Rp.yao Rp.yal.prev Rp.yal.hash)
 have HZ1:=yh (Rp.yan Rp.yal.prev Rp.yal.hash)
 obtain⟨ZT,hZT⟩:=yx (Rp.zero.cells)
 rw[hZT]at hzv HBt HZ68 HZ1
 have HZT:=yh hZT
 clear hZT
 have hz:=yjb
 have HZ4:Hid (Ct.zero.cells.length=4):=yh rfl
 have HZc:=yh (Ct.one Ct.zero)
 obtain⟨ZC,hZC⟩:=yx (Ct.zero.cells)
 rw[hZC]at hz HZ4 HZc C2
 generalize R1.cells=X1 at *
 generalize R2.cells=X2 at *
 generalize c.cells=XC at *
 clear hZC m1 e1 m2 e2 f1 f2 i1 k1 n1 ok1 k2 hT
 go_enter Tryz.func10,Tryz.ntmps10
 go_wp2_with fail
 refine MD.out.mono ?_
 rintro _ w1 ⟨g,p,m,rfl,h1⟩
 have D1:=yh h1
 clear h1 MD
 have cw1:=(D1.out.brow (gx:=m) (T:=32) (X:=WC g p) (by simp)).cell 1 (by simp[WC])
 simp only[WC,List.getElem_cons_zero,List.getElem_cons_succ]at cw1
 go_wp2_with fail
 refine(A1.out _ _ _ _ D1.out).mono ?_
 rintro _ w2 ⟨rfl,h2⟩
 have D2:=yh h2
 clear h2 A1 D1 cw1
 go_wp2_with (first
  | (
     with_reducible show wpList _ _ _ (⟨_,.store 64 (.tmp 2) _,_,_,_,_⟩::_) _ _
     refine yab rfl 64 (.tmp 2) (.tmp 19) rfl w2.heap.size 0 X1 ZT _ rfl rfl (Row.new w2 64 ZT) (by have:=HZ68.out;have:=HF1.out;omega) (by rw[yaf,HF1.out]) HO1.out ?_
     intro w3 hr hg
     rw[yad (HF1.out.trans HZ68.out.symm)]at hr
     have D3:=yh (D2.out.box hg hr)
     have cw2:=(D3.out.brow (gx:=m) (T:=32) (X:=WC g p) (by simp)).cell 1 (by simp[WC])
     simp only[WC,List.getElem_cons_zero,List.getElem_cons_succ]at cw2
     clear hr hg))
 generalize w2.heap.size=g2 at *
 refine(A2.out _ _ _ _ D3.out).mono ?_
 rintro _ w4 ⟨rfl,h4⟩
 have D4:=yh h4
 clear h4 A2 D3 D2 cw2
 go_wp2_with (first
  | (
     with_reducible show wpList _ _ _ (⟨_,.store 64 (.tmp 4) _,_,_,_,_⟩::_) _ _
     refine yab rfl 64 (.tmp 4) (.tmp 27) rfl w4.heap.size 0 X2 ZT _ rfl rfl (Row.new w4 64 ZT) (by have:=HZ68.out;have:=HF2.out;omega) (by rw[yaf,HF2.out]) HO2.out ?_
     intro w5 hr hg
     rw[yad (HF2.out.trans HZ68.out.symm)]at hr
     have D5:=yh (D4.out.box hg hr)
     have cw3:=(D5.out.brow (gx:=m) (T:=32) (X:=WC g p) (by simp)).cell 1 (by simp[WC])
     simp only[WC,List.getElem_cons_zero,List.getElem_cons_succ]at cw3
     clear hr hg))
 generalize w4.heap.size=g4 at *
 refine(C1.out _ _ _ _ D5.out).mono ?_
 rintro _ w6 ⟨rfl,h6⟩
 have D6:=yh h6
 clear h6 C1 D5 D4 cw3
 go_wp2_with (first
  | (
     with_reducible show wpList _ _ _ (⟨_,.store 52 (.tmp 6) _,_,_,_,_⟩::_) _ _
     refine yab rfl 52 (.tmp 6) (.tmp 35) rfl w6.heap.size 0 XC ZC _ rfl rfl (Row.new w6 52 ZC) (by have:=HZ4.out;have:=HC4.out;omega) (by rw[yba,HC4.out]) HC1.out ?_
     intro w7 hr hg
     rw[yad (HC4.out.trans HZ4.out.symm)]at hr
     have D7:=yh (D6.out.box hg hr)
     have cw4:=(D7.out.brow (gx:=m) (T:=32) (X:=WC g p) (by simp)).cell 1 (by simp[WC])
     simp only[WC,List.getElem_cons_zero,List.getElem_cons_succ]at cw4
     clear hr hg))
 generalize w6.heap.size=g6 at *
 refine(C2.out _ _ _ _ D7.out).mono ?_
 rintro _ w8 ⟨rfl,h8⟩
 have D8:=yh h8
 clear h8 C2 D7 D6 cw4
 go_wp2_with (first
  | (
     with_reducible show wpList _ _ _ (⟨_,.store 52 (.tmp 8) _,_,_,_,_⟩::_) _ _
     refine yab rfl 52 (.tmp 8) (.tmp 43) rfl w8.heap.size 0 ZC ZC _ rfl rfl (Row.new w8 52 ZC) (by have:=HZ4.out;have:=HZ4.out;omega) (by rw[yba,HZ4.out]) HZc.out ?_
     intro w9 hr hg
     rw[yad (HZ4.out.trans HZ4.out.symm)]at hr
     have D9:=yh (D8.out.box hg hr)
     have cw5:=(D9.out.brow (gx:=m) (T:=32) (X:=WC g p) (by simp)).cell 1 (by simp[WC])
     simp only[WC,List.getElem_cons_zero,List.getElem_cons_succ]at cw5
     have x0:=HX1.out _ _ (D9.out.brow (gx:=g2) (T:=64) (X:=X1) (by simp))
     have x3:=HX2.out _ _ (D9.out.brow (gx:=g6) (T:=52) (X:=XC) (by simp))
     clear hr hg))
 generalize w8.heap.size=g8 at *
 refine(RL.out _ _ _ _ _ D9.out).mono ?_
 rintro _ _ ⟨rfl,rfl⟩
 go_wp2_with fail
 refine(SY.out _ _ _ _ D9.out).mono ?_
 rintro _ w10 ⟨rfl,h10⟩
 have D10:=yh h10
 clear h10 SY D9 cw5 x0 x3
 have cw6:=(D10.out.brow (gx:=m) (T:=32) (X:=WC g p) (by simp)).cell 1 (by simp[WC])
 simp only[WC,List.getElem_cons_zero,List.getElem_cons_succ]at cw6
 go_wp2_with fail
 refine(RL.out _ _ _ _ _ D10.out).mono ?_
 rintro _ _ ⟨rfl,rfl⟩
 go_wp2_with fail
 go_ret
 exact⟨rfl,D10.out.low⟩
end
end Go.Proofs.YtalfnadejpmjnaaGreatDoor
