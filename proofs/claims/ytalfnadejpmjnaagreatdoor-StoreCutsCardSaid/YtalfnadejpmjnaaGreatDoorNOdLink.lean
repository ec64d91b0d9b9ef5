/- A part. -/
import Derived.Test.YtalfnadejpmjnaaGreatDoorNOdB
set_option linter.unusedVariables false
set_option linter.unusedSimpArgs false
set_option maxRecDepth 100000
set_option maxHeartbeats 25600000
namespace Go.Proofs.YtalfnadejpmjnaaGreatDoor
open Go.RowKit
theorem LogAt.link_early {w:World}{base B:Nat}{v dv:Value}{rs:List Rp}(h:LogAt w base B v dv rs)(kind:Int)(body:ByteArray)(time:Int)(he:rs≠[]∧time<Od.last rs):Calls Tryz.prog 92 #[.pointer (some ⟨B,0,none⟩),.int .i64 kind,.string body,.int .i64 time] w fun e w'=>e=.returned (.tuple #[.agg (Od.mk rs kind body time).1.cells.toArray,.int .i64 (Od.mk rs kind body time).2.1,.int .i64 (Od.mk rs kind body time).2.2])∧Below w.heap.size w w':=by
 rw[Od.ydq he]
 have hzv:=ydz
 have HBt:Hid (Tryz.prog.built 64 []=some Rp.zero.cells.toArray):=yh Rp.yaz
 have HZ68:=yh (Rp.yao Rp.yal.prev Rp.yal.hash)
 have HZ1:=yh (Rp.yan Rp.yal.prev Rp.yal.hash)
 obtain⟨ZT,hZT⟩:=yx (Rp.zero.cells)
 rw[hZT]at hzv HBt HZ68 HZ1
 have HZT:=yh hZT
 clear hZT
 have hb0:=(Below.refl w.heap.size w).alloc (Nat.le_refl _) (.cells ZT.toArray 64)
 have HB0:=yh hb0
 have HR0:=yh (Row.new w 64 ZT)
 have HH:=yh h
 obtain⟨n,hn⟩ :∃n,rs.length=n+1:=⟨rs.length-1,by have:=List.length_pos_iff.2 he.1;omega⟩
 have hlt:=he.2
 rw[(Od.ydb hn).2]at hlt
 have hl:=h.len
 have hf:=h.fits _ (List.getElem_mem (by omega:n<rs.length))
 obtain⟨g,c,hge,_,hgl⟩:=h.own.ne he.1
 subst hge
 have ct:(w.alloc (.cells ZT.toArray 64)).cell? ⟨g,n*68+2,none⟩=some (.int .i64 (rs[n]'(by omega)).time):=(hb0.cell (p:=⟨g,n*68+2,none⟩) hgl).trans (Rp.at hf.prev (h.own.at (Rp.lens h.fits) n (by omega))).2.2.1
 have c0:=(h.below hb0).c0
 obtain⟨tm,htm⟩:=yx ((rs[n]'(by omega)).time)
 rw[htm]at hlt ct
 rw[hn]at c0 hl
 have ew:IntKind.i64.wrap ((n:Int)+1-1)=(n:Int):=(IntWalk.i64_in _ (by omega)).trans (by omega)
 have ew':(n:Int)+1-1=(n:Int):=by omega
 have ew2:IntKind.i64.wrap (n:Int)=(n:Int):=IntWalk.i64_in _ (by omega)
 have hk0:(0:Int)≤(n:Int):=by omega
 have hkn:(n:Int)<(n:Int)+1:=by omega
 have d0:decide ((n:Int)+1>0)=true:=decide_eq_true (by omega)
 have d0':decide ((0:Int)<(n:Int)+1)=true:=decide_eq_true (by omega)
 have d1:decide (time<tm)=true:=decide_eq_true hlt
 rw[HZT.out]
 clear h he hn hlt hf hgl htm hl
 go_enter Tryz.func92,Tryz.ntmps92
 go_wp2_with (first
  | ((with_reducible show wpList _ _ _ (⟨_,.build 64 _,_,_,_,_⟩::_) _ _);refine yak rfl 64 [] rfl (some 36) rfl _ rfl ZT.toArray HBt.out ?_)
  | (
     with_reducible show wpList _ _ _ (⟨_,.store 64 (.tmp 8) _,_,_,_,_⟩::_) _ _
     refine yab rfl 64 (.tmp 8) (.tmp 36) rfl w.heap.size 0 ZT ZT _ rfl rfl (HR0.out) (by have:=HZ68.out;have:=HZ68.out;omega) (by rw[yaf,HZ68.out]) HZ1.out ?_
     intro w9 hr hg
     rw[yad (HZ68.out.trans HZ68.out.symm)]at hr
     have HS9:=yh hr
     have HB9:=yh (below_own HB0.out hg (fun k hk=>by cases hk;exact Nat.le_refl _))
     clear hr hg))
 refine bodyPost_ret (ya7 rfl _ _ w.heap.size 64 ZT _ rfl HS9.out Tryz.underlying64 rfl (by rw[yaf];simp[HZ68.out]) _ _ rfl rfl) rfl ⟨by first|rfl|(rw[HMk.out];rfl),HB9.out⟩
theorem LogAt.link_tx_no {w:World}{base B:Nat}{v dv:Value}{rs:List Rp}(h:LogAt w base B v dv rs)(body:ByteArray)(time:Int)(hs:body.size≤140737488351232)(hT:Tab w)(he :¬(rs≠[]∧time<Od.last rs))(ha:(Od.ask rs 1 body).2≠0):Calls Tryz.prog 92 #[.pointer (some ⟨B,0,none⟩),.int .i64 1,.string body,.int .i64 time] w fun e w'=>e=.returned (.tuple #[.agg (Od.mk rs 1 body time).1.cells.toArray,.int .i64 (Od.mk rs 1 body time).2.1,.int .i64 (Od.mk rs 1 body time).2.2])∧Below w.heap.size w w':=by
 have hzv:=ydz
 have HBt:Hid (Tryz.prog.built 64 []=some Rp.zero.cells.toArray):=yh Rp.yaz
 have HZ68:=yh (Rp.yao Rp.yal.prev Rp.yal.hash)
 have HZ1:=yh (Rp.yan Rp.yal.prev Rp.yal.hash)
 obtain⟨ZT,hZT⟩:=yx (Rp.zero.cells)
 rw[hZT]at hzv HBt HZ68 HZ1
 have HZT:=yh hZT
 clear hZT
 have hb0:=(Below.refl w.heap.size w).alloc (Nat.le_refl _) (.cells ZT.toArray 64)
 have HB0:=yh hb0
 have HR0:=yh (Row.new w 64 ZT)
 have HH:=yh h
 have HTb:=yh hT
 have HBs:=yh hs
 rw[Od.ye1 he ha]
 obtain⟨ak,hak⟩:=yx (Od.ask rs 1 body)
 obtain⟨aw,ae⟩:=ak
 have HAk:=yh hak
 rw[hak]at ha ⊢
 have dA:(ae != 0)=true:=by simpa using ha
 rw[HZT.out]
 clear ha hak
 obtain⟨A,c,hvA⟩:=h.form
 subst hvA
 have c0:=(h.below hb0).c0
 have HC0:Hid (∀W,Below w.heap.size w W→W.cell? ⟨B,0,none⟩=some (.slice A rs.length c)):=yh (fun W hW=>(HH.out.below hW).c0)
 clear h hb0 hT hs
 by_cases hne:rs=[]
 · have hlen:rs.length=0:=by rw[hne];rfl
   rw[hlen]at c0 HC0
   have HLz:Hid ((rs.length:Int)=0):=yh (by omega)
   have d0:decide ((0:Int)>0)=false:=by decide
   clear hlen
   clear hne he
   go_enter Tryz.func92,Tryz.ntmps92
   go_wp2_with fail
   have AT:=yf5 B body (w.alloc (.cells ZT.toArray 64))
   rw[show (w.alloc (.cells ZT.toArray 64)).heap.size=w.heap.size+1 by simp]at AT
   have HAT:=yh AT
   clear AT
   refine HAT.out.mono ?_
   rintro _ w2 ⟨rfl,hb2,hl2,hs2⟩
   have hb2':Below (w.alloc (.cells ZT.toArray 64)).heap.size (w.alloc (.cells ZT.toArray 64)) w2:=by rw[show (w.alloc (.cells ZT.toArray 64)).heap.size=w.heap.size+1 by simp];exact hb2
   have HB2:=yh (yaa HB0.out hb2')
   have HR2:=yh (HR0.out.below hb2')
   have HL2:=yh hl2
   have HS2:=yh hs2
   clear hb2 hb2' c0 hl2 hs2
   generalize w.heap.size+1+1=gb at *
   generalize w.heap.size+1=gl at *
   go_wp2_with fail
   have AK:=yf6 (HH.out.below HB2.out) body HBs.out HS2.out HL2.out (HTb.out.below HB2.out HTb.out.pos)
   rw[HAk.out]at AK
   have HAK:=yh AK
   clear AK
   refine HAK.out.mono ?_
   rintro _ w3 ⟨rfl,hb3⟩
   have HB3:=yh (yaa HB2.out hb3)
   have HR3:=yh (HR2.out.below hb3)
   clear hb3
   go_wp2_with (first
    | ((with_reducible show wpList _ _ _ (⟨_,.build 64 _,_,_,_,_⟩::_) _ _);refine yak rfl 64 [] rfl (some 48) rfl _ rfl ZT.toArray HBt.out ?_)
    | (
       with_reducible show wpList _ _ _ (⟨_,.store 64 (.tmp 8) _,_,_,_,_⟩::_) _ _
       refine yab rfl 64 (.tmp 8) (.tmp 48) rfl w.heap.size 0 ZT ZT _ rfl rfl (HR3.out) (by have:=HZ68.out;have:=HZ68.out;omega) (by rw[yaf,HZ68.out]) HZ1.out ?_
       intro w9 hr hg
       rw[yad (HZ68.out.trans HZ68.out.symm)]at hr
       have HS9:=yh hr
       have HB9:=yh (below_own HB3.out hg (fun k hk=>by cases hk;exact Nat.le_refl _))
       clear hr hg))
   refine bodyPost_ret (ya7 rfl _ _ w.heap.size 64 ZT _ rfl HS9.out Tryz.underlying64 rfl (by rw[yaf];simp[HZ68.out]) _ _ rfl rfl) rfl ⟨by first|rfl|(rw[HMk.out];rfl),HB9.out⟩
 · obtain⟨n,hn⟩ :∃n,rs.length=n+1:=⟨rs.length-1,by have:=List.length_pos_iff.2 hne;omega⟩
   have hlt :¬time<(rs[n]'(by omega)).time:=fun q=>he ⟨hne,by rw[(Od.ydb hn).2];exact q⟩
   have hl:=HH.out.len
   have hf:=HH.out.fits _ (List.getElem_mem (by omega:n<rs.length))
   obtain⟨g,c',hge,_,hgl⟩:=HH.out.own.ne hne
   injection hge with ea eb ec
   subst ea
   clear eb ec
   have ct:(w.alloc (.cells ZT.toArray 64)).cell? ⟨g,n*68+2,none⟩=some (.int .i64 (rs[n]'(by omega)).time):=(HB0.out.cell (p:=⟨g,n*68+2,none⟩) hgl).trans (Rp.at hf.prev (HH.out.own.at (Rp.lens HH.out.fits) n (by omega))).2.2.1
   obtain⟨tm,htm⟩:=yx ((rs[n]'(by omega)).time)
   rw[htm]at hlt ct
   rw[hn]at c0 hl
   have ew:IntKind.i64.wrap ((n:Int)+1-1)=(n:Int):=(IntWalk.i64_in _ (by omega)).trans (by omega)
   have ew':(n:Int)+1-1=(n:Int):=by omega
   have ew2:IntKind.i64.wrap (n:Int)=(n:Int):=IntWalk.i64_in _ (by omega)
   have hk0:(0:Int)≤(n:Int):=by omega
   have hkn:(n:Int)<(n:Int)+1:=by omega
   have d0:decide ((n:Int)+1>0)=true:=decide_eq_true (by omega)
   have d0':decide ((0:Int)<(n:Int)+1)=true:=decide_eq_true (by omega)
   have d1:decide (time<tm)=false:=decide_eq_false hlt
   have HNn:=yh hn
   clear hn hlt hf hgl htm hl
   rw[HNn.out]at HC0
   have HLz:Hid ((rs.length:Int)=(n:Int)+1):=yh (by rw[HNn.out];omega)
   clear hne he
   go_enter Tryz.func92,Tryz.ntmps92
   go_wp2_with fail
   have AT:=yf5 B body (w.alloc (.cells ZT.toArray 64))
   rw[show (w.alloc (.cells ZT.toArray 64)).heap.size=w.heap.size+1 by simp]at AT
   have HAT:=yh AT
   clear AT
   refine HAT.out.mono ?_
   rintro _ w2 ⟨rfl,hb2,hl2,hs2⟩
   have hb2':Below (w.alloc (.cells ZT.toArray 64)).heap.size (w.alloc (.cells ZT.toArray 64)) w2:=by rw[show (w.alloc (.cells ZT.toArray 64)).heap.size=w.heap.size+1 by simp];exact hb2
   have HB2:=yh (yaa HB0.out hb2')
   have HR2:=yh (HR0.out.below hb2')
   have HL2:=yh hl2
   have HS2:=yh hs2
   clear hb2 hb2' c0 hl2 hs2
   generalize w.heap.size+1+1=gb at *
   generalize w.heap.size+1=gl at *
   go_wp2_with fail
   have AK:=yf6 (HH.out.below HB2.out) body HBs.out HS2.out HL2.out (HTb.out.below HB2.out HTb.out.pos)
   rw[HAk.out]at AK
   have HAK:=yh AK
   clear AK
   refine HAK.out.mono ?_
   rintro _ w3 ⟨rfl,hb3⟩
   have HB3:=yh (yaa HB2.out hb3)
   have HR3:=yh (HR2.out.below hb3)
   clear hb3
   go_wp2_with (first
    | ((with_reducible show wpList _ _ _ (⟨_,.build 64 _,_,_,_,_⟩::_) _ _);refine yak rfl 64 [] rfl (some 48) rfl _ rfl ZT.toArray HBt.out ?_)
    | (
       with_reducible show wpList _ _ _ (⟨_,.store 64 (.tmp 8) _,_,_,_,_⟩::_) _ _
       refine yab rfl 64 (.tmp 8) (.tmp 48) rfl w.heap.size 0 ZT ZT _ rfl rfl (HR3.out) (by have:=HZ68.out;have:=HZ68.out;omega) (by rw[yaf,HZ68.out]) HZ1.out ?_
       intro w9 hr hg
       rw[yad (HZ68.out.trans HZ68.out.symm)]at hr
       have HS9:=yh hr
       have HB9:=yh (below_own HB3.out hg (fun k hk=>by cases hk;exact Nat.le_refl _))
       clear hr hg))
   refine bodyPost_ret (ya7 rfl _ _ w.heap.size 64 ZT _ rfl HS9.out Tryz.underlying64 rfl (by rw[yaf];simp[HZ68.out]) _ _ rfl rfl) rfl ⟨by first|rfl|(rw[HMk.out];rfl),HB9.out⟩
theorem LogAt.link_tx_ok {w:World}{base B:Nat}{v dv:Value}{rs:List Rp}(h:LogAt w base B v dv rs)(body:ByteArray)(time:Int)(hs:body.size≤140737488351232)(hT:Tab w)(he :¬(rs≠[]∧time<Od.last rs))(ha:(Od.ask rs 1 body).2=0):Calls Tryz.prog 92 #[.pointer (some ⟨B,0,none⟩),.int .i64 1,.string body,.int .i64 time] w fun e w'=>e=.returned (.tuple #[.agg (Od.mk rs 1 body time).1.cells.toArray,.int .i64 (Od.mk rs 1 body time).2.1,.int .i64 (Od.mk rs 1 body time).2.2])∧Below w.heap.size w w':=by
 have hzv:=ydz
 have HBt:Hid (Tryz.prog.built 64 []=some Rp.zero.cells.toArray):=yh Rp.yaz
 have HZ68:=yh (Rp.yao Rp.yal.prev Rp.yal.hash)
 have HZ1:=yh (Rp.yan Rp.yal.prev Rp.yal.hash)
 obtain⟨ZT,hZT⟩:=yx (Rp.zero.cells)
 rw[hZT]at hzv HBt HZ68 HZ1
 have HZT:=yh hZT
 clear hZT
 have hb0:=(Below.refl w.heap.size w).alloc (Nat.le_refl _) (.cells ZT.toArray 64)
 have HB0:=yh hb0
 have HR0:=yh (Row.new w 64 ZT)
 have HH:=yh h
 have HTb:=yh hT
 have HBs:=yh hs
 have hmk:=Od.ycj he ha
 obtain⟨ak,hak⟩:=yx (Od.ask rs 1 body)
 obtain⟨aw,ae⟩:=ak
 have HAk:=yh hak
 rw[hak]at ha hmk
 have ha0:ae=0:=ha
 subst ha0
 obtain⟨LE,hLE⟩:=yx (Rp.linkE (Od.raw rs 1 body time))
 have hrf:LE.1.prev.length=32∧LE.1.hash.length=32:=by
  rw[←hLE]
  unfold Rp.linkE
  split
  · exact⟨h.good.head,Rp.ybf _⟩
  · exact⟨rfl,rfl⟩
 have HHd:Hid (∀W,Below w.heap.size w W→Calls Tryz.prog 129 #[.pointer (some ⟨B,0,none⟩)] W fun e w'=>e=.returned (.agg (bRow (Od.head rs)))∧Below W.heap.size W w'):=yh (fun W hW=>(HH.out.below hW).head)
 have HLk0:Hid (∀W,Below w.heap.size w W→Calls Tryz.prog 128 #[.agg (bRow (Od.head rs)),.int .i64 rs.length,.int .i64 1,.int .i64 time,.string body] W fun e w'=>e=.returned (.tuple #[.agg LE.1.cells.toArray,.int .i64 LE.2])∧Below W.heap.size W w'):=yh (fun W hW=>by
  have:=ykd (rs.length:Int) 1 time body (Od.head rs) HH.out.good.head W (HTb.out.below hW HTb.out.pos)
  rw[show (Rp.mk (rs.length:Int) 1 time body (Od.head rs) Tx.zero)=Od.raw rs 1 body time from rfl,hLE]at this
  exact this)
 rw[hLE]at hmk
 obtain⟨ee,hee⟩:=yx (LE.2)
 have HCR68:=yh (Rp.yao hrf.1 hrf.2)
 have HCR1:=yh (Rp.yan hrf.1 hrf.2)
 obtain⟨R,hRe⟩:=yx (LE.1)
 rw[hRe]at HCR68 HCR1 HLk0 hmk
 rw[hee]at HLk0 hmk
 have HMk:=yh hmk
 rw[HMk.out]
 obtain⟨CR,hCR⟩:=yx (R.cells)
 rw[hCR]at HCR68 HCR1 HLk0 ⊢
 generalize bRow (Od.head rs)=HDv at *
 skip
 clear ha hak hLE hrf hmk hee hRe hCR
 obtain⟨A,c,hvA⟩:=h.form
 subst hvA
 have c0:=(h.below hb0).c0
 have HC0:Hid (∀W,Below w.heap.size w W→W.cell? ⟨B,0,none⟩=some (.slice A rs.length c)):=yh (fun W hW=>(HH.out.below hW).c0)
 clear h hb0 hT hs
 by_cases hne:rs=[]
 · have hlen:rs.length=0:=by rw[hne];rfl
   rw[hlen]at c0 HC0
   have HLz:Hid ((rs.length:Int)=0):=yh (by omega)
   have d0:decide ((0:Int)>0)=false:=by decide
   clear hlen
   clear hne he
   go_enter Tryz.func92,Tryz.ntmps92
   go_wp2_with fail
   have AT:=yf5 B body (w.alloc (.cells ZT.toArray 64))
   rw[show (w.alloc (.cells ZT.toArray 64)).heap.size=w.heap.size+1 by simp]at AT
   have HAT:=yh AT
   clear AT
   refine HAT.out.mono ?_
   rintro _ w2 ⟨rfl,hb2,hl2,hs2⟩
   have hb2':Below (w.alloc (.cells ZT.toArray 64)).heap.size (w.alloc (.cells ZT.toArray 64)) w2:=by rw[show (w.alloc (.cells ZT.toArray 64)).heap.size=w.heap.size+1 by simp];exact hb2
   have HB2:=yh (yaa HB0.out hb2')
   have HR2:=yh (HR0.out.below hb2')
   have HL2:=yh hl2
   have HS2:=yh hs2
   clear hb2 hb2' c0 hl2 hs2
   generalize w.heap.size+1+1=gb at *
   generalize w.heap.size+1=gl at *
   go_wp2_with fail
   have AK:=yf6 (HH.out.below HB2.out) body HBs.out HS2.out HL2.out (HTb.out.below HB2.out HTb.out.pos)
   rw[HAk.out]at AK
   have HAK:=yh AK
   clear AK
   refine HAK.out.mono ?_
   rintro _ w3 ⟨rfl,hb3⟩
   have HB3:=yh (yaa HB2.out hb3)
   have HR3:=yh (HR2.out.below hb3)
   clear hb3
   go_wp2_with fail
   have HLk:Hid (∀W,Below w.heap.size w W→Calls Tryz.prog 128 #[.agg HDv,.int .i64 0,.int .i64 1,.int .i64 time,.string body] W fun e w'=>e=.returned (.tuple #[.agg CR.toArray,.int .i64 ee])∧Below W.heap.size W w'):=yh (fun W hW=>by
    have:=HLk0.out W hW
    rw[HLz.out]at this
    exact this)
   refine wp_region_noPanic ?_
   refine wp_region_held_drew (S:=fun w'=>Below w3.heap.size w3 w') (by kernel_rfl) ((Below.refl _ _).drew) (fun gH=>?_)
   generalize w3.drew=wq at *
   refine yg 0 (.pointer (some ⟨B,0,none⟩)) rfl gH ?_
   refine yg 2 (.pointer (some ⟨B,0,none⟩)) rfl gH ?_
   refine yg 3 (.pointer (some ⟨B,0,none⟩)) rfl gH ?_
   simp only[Act.put,Ya,Yb,Yc,Yd,Ye,Yf]
   refine yg 4 (.pointer (some ⟨B,0,none⟩)) rfl gH ?_
   refine yk 5 (.slice A (0) c) rfl (fun w' hSw=>by have hq:=hSw;have hd:=HC0.out _ (yaa HB3.out hq);go_simp) gH ?_
   refine yg 6 (.int .i64 0) rfl gH ?_
   simp only[Act.put,Ya,Yb,Yc,Yd,Ye,Yf]
   refine yg 7 (.int .i64 1) rfl gH ?_
   refine yg 8 (.int .i64 time) rfl gH ?_
   refine yg 9 (.string body) rfl gH ?_
   simp only[Act.put,Ya,Yb,Yc,Yd,Ye,Yf]
   refine yS 1 14 (by kernel_rfl) rfl rfl (fun K1 hK1=>?_) (fun K1 hK1=>?_)
   · skip
     try simp only[Act.put,Ya,Yb,Yc,Yd,Ye,Yf]
     go_simp
     refine Calls.mono (HHd.out _ (yaa HB3.out gH)) ?_
     rintro e wc1 ⟨rfl,hc2⟩
     refine hK1.out _ _ (yaa gH hc2) (fun gH=>?_)
     clear hK1 K1
     refine yS 10 14 (by kernel_rfl) rfl rfl (fun K1 hK1=>?_) (fun K1 hK1=>?_)
     · skip
       try simp only[Act.put,Ya,Yb,Yc,Yd,Ye,Yf]
       go_simp
       refine Calls.mono (HLk.out _ (yaa HB3.out gH)) ?_
       rintro e wc3 ⟨rfl,hc4⟩
       refine hK1.out _ _ (yaa gH hc4) (fun gH=>?_)
       clear hK1 K1
       refine yg 11 (.tuple #[.agg CR.toArray,.int .i64 ee]) rfl gH ?_
       refine yg 12 (.agg CR.toArray) rfl gH ?_
       simp only[Act.put,Ya,Yb,Yc,Yd,Ye,Yf]
       refine yg 13 (.int .i64 ee) rfl gH ?_
       refine yR 14 (by kernel_rfl) rfl (fun K1 hK1=>?_)
       try simp only[Act.put,Ya,Yb,Yc,Yd,Ye,Yf]
       go_simp
       have hd6:=(Below.refl wc3.heap.size wc3).alloc (Nat.le_refl _) (.cells ZT.toArray 64)
       have rA:Row (wc3.alloc (.cells ZT.toArray 64)) wc3.heap.size 64 ZT:=Row.new wc3 64 ZT
       have rAs:w3.heap.size≤wc3.heap.size:=gH.size
       have eH:=yaa gH hd6
       generalize wc3.alloc (.cells ZT.toArray 64)=wa5 at *
       obtain⟨ga7,ga7e⟩ :∃ga7,ga7=wc3.heap.size:=⟨_,rfl⟩
       rw[←ga7e]at rA rAs ⊢
       refine hK1.out _ _ eH (fun gH=>?_)
       clear hK1 K1
       clear eH ga7e
       refine yR 15 (by kernel_rfl) rfl (fun K1 hK1=>?_)
       try simp only[Act.put,Ya,Yb,Yc,Yd,Ye,Yf]
       rw[if_pos (by rfl)]
       refine yar 64 (.tmp 15) (.tmp 62) rfl ga7 0 CR _ _ rfl rfl rA (by have:=HZ68.out;have:=HCR68.out;omega) (by rw[yaf,HCR68.out]) HCR1.out ?_
       intro ws8 hrS hgS
       rw[yad (HCR68.out.trans HZ68.out.symm)]at hrS
       have HR15:=yh hrS
       have eH:=below_own gH hgS (fun k hk=>by cases hk;exact rAs)
       clear hrS hgS
       refine hK1.out _ _ eH (fun gH=>?_)
       clear hK1 K1
       clear eH
       refine yg 16 (.int .i64 ee) rfl gH ?_
       refine wpAnyH_done (by kernel_rfl) ?_ _
       refine NoPanic.normal ?_
       have HB5:=yh (yaa HB3.out gH)
       have HR5:=yh (HR3.out.below gH)
       clear gH
       go_wp2_with (first
        | ((with_reducible show wpList _ _ _ (⟨_,.load 64 (.tmp 15),_,_,_,_⟩::_) _ _);refine yac rfl 64 (.tmp 15) rfl ga7 0 (rfl) CR _ (yah HR15.out) Tryz.underlying64 rfl (by rw[yaf,HCR68.out]) ?_)
        | (
           with_reducible show wpList _ _ _ (⟨_,.store 64 (.tmp 8) _,_,_,_,_⟩::_) _ _
           refine yab rfl 64 (.tmp 8) (.tmp 64) rfl w.heap.size 0 CR ZT _ rfl rfl (HR5.out) (by have:=HZ68.out;have:=HCR68.out;omega) (by rw[yaf,HCR68.out]) HCR1.out ?_
           intro w9 hr hg
           rw[yad (HCR68.out.trans HZ68.out.symm)]at hr
           have HS9:=yh hr
           have HB9:=yh (below_own HB5.out hg (fun k hk=>by cases hk;exact Nat.le_refl _))
           clear hr hg))
       refine bodyPost_ret (ya7 rfl _ _ w.heap.size 64 CR _ rfl HS9.out Tryz.underlying64 rfl (by rw[yaf];simp[HCR68.out]) _ _ rfl rfl) rfl ⟨by first|rfl|(rw[HMk.out];rfl),HB9.out⟩
     · skip
       try simp only[Act.put,Ya,Yb,Yc,Yd,Ye,Yf]
       go_simp
       have hd10:=(Below.refl wc1.heap.size wc1).alloc (Nat.le_refl _) (.cells ZT.toArray 64)
       have rA:Row (wc1.alloc (.cells ZT.toArray 64)) wc1.heap.size 64 ZT:=Row.new wc1 64 ZT
       have rAs:w3.heap.size≤wc1.heap.size:=gH.size
       have eH:=yaa gH hd10
       generalize wc1.alloc (.cells ZT.toArray 64)=wa9 at *
       obtain⟨ga11,ga11e⟩ :∃ga11,ga11=wc1.heap.size:=⟨_,rfl⟩
       rw[←ga11e]at rA rAs ⊢
       refine hK1.out _ _ eH (fun gH=>?_)
       clear hK1 K1
       clear eH ga11e
       refine yR 10 (by kernel_rfl) rfl (fun K1 hK1=>?_)
       try simp only[Act.put,Ya,Yb,Yc,Yd,Ye,Yf]
       go_simp
       refine Calls.mono (HLk.out _ (yaa HB3.out gH)) ?_
       rintro e wc12 ⟨rfl,hc13⟩
       have rA:=rA.kept (yae hc13 none) (by simp)
       refine hK1.out _ _ (yaa gH hc13) (fun gH=>?_)
       clear hK1 K1
       refine yg 11 (.tuple #[.agg CR.toArray,.int .i64 ee]) rfl gH ?_
       refine yg 12 (.agg CR.toArray) rfl gH ?_
       simp only[Act.put,Ya,Yb,Yc,Yd,Ye,Yf]
       refine yg 13 (.int .i64 ee) rfl gH ?_
       refine yR 15 (by kernel_rfl) rfl (fun K1 hK1=>?_)
       try simp only[Act.put,Ya,Yb,Yc,Yd,Ye,Yf]
       rw[if_pos (by rfl)]
       refine yar 64 (.tmp 15) (.tmp 62) rfl ga11 0 CR _ _ rfl rfl rA (by have:=HZ68.out;have:=HCR68.out;omega) (by rw[yaf,HCR68.out]) HCR1.out ?_
       intro ws14 hrS hgS
       rw[yad (HCR68.out.trans HZ68.out.symm)]at hrS
       have HR15:=yh hrS
       have eH:=below_own gH hgS (fun k hk=>by cases hk;exact rAs)
       clear hrS hgS
       refine hK1.out _ _ eH (fun gH=>?_)
       clear hK1 K1
       clear eH
       refine yg 16 (.int .i64 ee) rfl gH ?_
       refine wpAnyH_done (by kernel_rfl) ?_ _
       refine NoPanic.normal ?_
       have HB5:=yh (yaa HB3.out gH)
       have HR5:=yh (HR3.out.below gH)
       clear gH
       go_wp2_with (first
        | ((with_reducible show wpList _ _ _ (⟨_,.load 64 (.tmp 15),_,_,_,_⟩::_) _ _);refine yac rfl 64 (.tmp 15) rfl ga11 0 (rfl) CR _ (yah HR15.out) Tryz.underlying64 rfl (by rw[yaf,HCR68.out]) ?_)
        | (
           with_reducible show wpList _ _ _ (⟨_,.store 64 (.tmp 8) _,_,_,_,_⟩::_) _ _
           refine yab rfl 64 (.tmp 8) (.tmp 64) rfl w.heap.size 0 CR ZT _ rfl rfl (HR5.out) (by have:=HZ68.out;have:=HCR68.out;omega) (by rw[yaf,HCR68.out]) HCR1.out ?_
           intro w9 hr hg
           rw[yad (HCR68.out.trans HZ68.out.symm)]at hr
           have HS9:=yh hr
           have HB9:=yh (below_own HB5.out hg (fun k hk=>by cases hk;exact Nat.le_refl _))
           clear hr hg))
       refine bodyPost_ret (ya7 rfl _ _ w.heap.size 64 CR _ rfl HS9.out Tryz.underlying64 rfl (by rw[yaf];simp[HCR68.out]) _ _ rfl rfl) rfl ⟨by first|rfl|(rw[HMk.out];rfl),HB9.out⟩
   · skip
     try simp only[Act.put,Ya,Yb,Yc,Yd,Ye,Yf]
     go_simp
     have hd16:=(Below.refl wq.heap.size wq).alloc (Nat.le_refl _) (.cells ZT.toArray 64)
     have rA:Row (wq.alloc (.cells ZT.toArray 64)) wq.heap.size 64 ZT:=Row.new wq 64 ZT
     have rAs:w3.heap.size≤wq.heap.size:=gH.size
     have eH:=yaa gH hd16
     generalize wq.alloc (.cells ZT.toArray 64)=wa15 at *
     obtain⟨ga17,ga17e⟩ :∃ga17,ga17=wq.heap.size:=⟨_,rfl⟩
     rw[←ga17e]at rA rAs ⊢
     refine hK1.out _ _ eH (fun gH=>?_)
     clear hK1 K1
     clear eH ga17e
     refine yR 1 (by kernel_rfl) rfl (fun K1 hK1=>?_)
     try simp only[Act.put,Ya,Yb,Yc,Yd,Ye,Yf]
     go_simp
     refine Calls.mono (HHd.out _ (yaa HB3.out gH)) ?_
     rintro e wc18 ⟨rfl,hc19⟩
     have rA:=rA.kept (yae hc19 none) (by simp)
     refine hK1.out _ _ (yaa gH hc19) (fun gH=>?_)
     clear hK1 K1
     refine yR 10 (by kernel_rfl) rfl (fun K1 hK1=>?_)
     try simp only[Act.put,Ya,Yb,Yc,Yd,Ye,Yf]
     go_simp
     refine Calls.mono (HLk.out _ (yaa HB3.out gH)) ?_
     rintro e wc20 ⟨rfl,hc21⟩
     have rA:=rA.kept (yae hc21 none) (by simp)
     refine hK1.out _ _ (yaa gH hc21) (fun gH=>?_)
     clear hK1 K1
     refine yg 11 (.tuple #[.agg CR.toArray,.int .i64 ee]) rfl gH ?_
     refine yg 12 (.agg CR.toArray) rfl gH ?_
     simp only[Act.put,Ya,Yb,Yc,Yd,Ye,Yf]
     refine yg 13 (.int .i64 ee) rfl gH ?_
     refine yR 15 (by kernel_rfl) rfl (fun K1 hK1=>?_)
     try simp only[Act.put,Ya,Yb,Yc,Yd,Ye,Yf]
     rw[if_pos (by rfl)]
     refine yar 64 (.tmp 15) (.tmp 62) rfl ga17 0 CR _ _ rfl rfl rA (by have:=HZ68.out;have:=HCR68.out;omega) (by rw[yaf,HCR68.out]) HCR1.out ?_
     intro ws22 hrS hgS
     rw[yad (HCR68.out.trans HZ68.out.symm)]at hrS
     have HR15:=yh hrS
     have eH:=below_own gH hgS (fun k hk=>by cases hk;exact rAs)
     clear hrS hgS
     refine hK1.out _ _ eH (fun gH=>?_)
     clear hK1 K1
     clear eH
     refine yg 16 (.int .i64 ee) rfl gH ?_
     refine wpAnyH_done (by kernel_rfl) ?_ _
     refine NoPanic.normal ?_
     have HB5:=yh (yaa HB3.out gH)
     have HR5:=yh (HR3.out.below gH)
     clear gH
     go_wp2_with (first
      | ((with_reducible show wpList _ _ _ (⟨_,.load 64 (.tmp 15),_,_,_,_⟩::_) _ _);refine yac rfl 64 (.tmp 15) rfl ga17 0 (rfl) CR _ (yah HR15.out) Tryz.underlying64 rfl (by rw[yaf,HCR68.out]) ?_)
      | (
         with_reducible show wpList _ _ _ (⟨_,.store 64 (.tmp 8) _,_,_,_,_⟩::_) _ _
         refine yab rfl 64 (.tmp 8) (.tmp 64) rfl w.heap.size 0 CR ZT _ rfl rfl (HR5.out) (by have:=HZ68.out;have:=HCR68.out;omega) (by rw[yaf,HCR68.out]) HCR1.out ?_
         intro w9 hr hg
         rw[yad (HCR68.out.trans HZ68.out.symm)]at hr
         have HS9:=yh hr
         have HB9:=yh (below_own HB5.out hg (fun k hk=>by cases hk;exact Nat.le_refl _))
         clear hr hg))
     refine bodyPost_ret (ya7 rfl _ _ w.heap.size 64 CR _ rfl HS9.out Tryz.underlying64 rfl (by rw[yaf];simp[HCR68.out]) _ _ rfl rfl) rfl ⟨by first|rfl|(rw[HMk.out];rfl),HB9.out⟩
 · obtain⟨n,hn⟩ :∃n,rs.length=n+1:=⟨rs.length-1,by have:=List.length_pos_iff.2 hne;omega⟩
   have hlt :¬time<(rs[n]'(by omega)).time:=fun q=>he ⟨hne,by rw[(Od.ydb hn).2];exact q⟩
   have hl:=HH.out.len
   have hf:=HH.out.fits _ (List.getElem_mem (by omega:n<rs.length))
   obtain⟨g,c',hge,_,hgl⟩:=HH.out.own.ne hne
   injection hge with ea eb ec
   subst ea
   clear eb ec
   have ct:(w.alloc (.cells ZT.toArray 64)).cell? ⟨g,n*68+2,none⟩=some (.int .i64 (rs[n]'(by omega)).time):=(HB0.out.cell (p:=⟨g,n*68+2,none⟩) hgl).trans (Rp.at hf.prev (HH.out.own.at (Rp.lens HH.out.fits) n (by omega))).2.2.1
   obtain⟨tm,htm⟩:=yx ((rs[n]'(by omega)).time)
   rw[htm]at hlt ct
   rw[hn]at c0 hl
   have ew:IntKind.i64.wrap ((n:Int)+1-1)=(n:Int):=(IntWalk.i64_in _ (by omega)).trans (by omega)
   have ew':(n:Int)+1-1=(n:Int):=by omega
   have ew2:IntKind.i64.wrap (n:Int)=(n:Int):=IntWalk.i64_in _ (by omega)
   have hk0:(0:Int)≤(n:Int):=by omega
   have hkn:(n:Int)<(n:Int)+1:=by omega
   have d0:decide ((n:Int)+1>0)=true:=decide_eq_true (by omega)
   have d0':decide ((0:Int)<(n:Int)+1)=true:=decide_eq_true (by omega)
   have d1:decide (time<tm)=false:=decide_eq_false hlt
   have HNn:=yh hn
   clear hn hlt hf hgl htm hl
   rw[HNn.out]at HC0
   have HLz:Hid ((rs.length:Int)=(n:Int)+1):=yh (by rw[HNn.out];omega)
   clear hne he
   go_enter Tryz.func92,Tryz.ntmps92
   go_wp2_with fail
   have AT:=yf5 B body (w.alloc (.cells ZT.toArray 64))
   rw[show (w.alloc (.cells ZT.toArray 64)).heap.size=w.heap.size+1 by simp]at AT
   have HAT:=yh AT
   clear AT
   refine HAT.out.mono ?_
   rintro _ w2 ⟨rfl,hb2,hl2,hs2⟩
   have hb2':Below (w.alloc (.cells ZT.toArray 64)).heap.size (w.alloc (.cells ZT.toArray 64)) w2:=by rw[show (w.alloc (.cells ZT.toArray 64)).heap.size=w.heap.size+1 by simp];exact hb2
   have HB2:=yh (yaa HB0.out hb2')
   have HR2:=yh (HR0.out.below hb2')
   have HL2:=yh hl2
   have HS2:=yh hs2
   clear hb2 hb2' c0 hl2 hs2
   generalize w.heap.size+1+1=gb at *
   generalize w.heap.size+1=gl at *
   go_wp2_with fail
   have AK:=yf6 (HH.out.below HB2.out) body HBs.out HS2.out HL2.out (HTb.out.below HB2.out HTb.out.pos)
   rw[HAk.out]at AK
   have HAK:=yh AK
   clear AK
   refine HAK.out.mono ?_
   rintro _ w3 ⟨rfl,hb3⟩
   have HB3:=yh (yaa HB2.out hb3)
   have HR3:=yh (HR2.out.below hb3)
   clear hb3
   go_wp2_with fail
   have HLk:Hid (∀W,Below w.heap.size w W→Calls Tryz.prog 128 #[.agg HDv,.int .i64 ((n:Int)+1),.int .i64 1,.int .i64 time,.string body] W fun e w'=>e=.returned (.tuple #[.agg CR.toArray,.int .i64 ee])∧Below W.heap.size W w'):=yh (fun W hW=>by
    have:=HLk0.out W hW
    rw[HLz.out]at this
    exact this)
   refine wp_region_noPanic ?_
   refine wp_region_held_drew (S:=fun w'=>Below w3.heap.size w3 w') (by kernel_rfl) ((Below.refl _ _).drew) (fun gH=>?_)
   generalize w3.drew=wq at *
   refine yg 0 (.pointer (some ⟨B,0,none⟩)) rfl gH ?_
   simp only[Act.put,Ya,Yb,Yc,Yd,Ye,Yf]
   refine yg 2 (.pointer (some ⟨B,0,none⟩)) rfl gH ?_
   refine yg 3 (.pointer (some ⟨B,0,none⟩)) rfl gH ?_
   refine yg 4 (.pointer (some ⟨B,0,none⟩)) rfl gH ?_
   simp only[Act.put,Ya,Yb,Yc,Yd,Ye,Yf]
   refine yk 5 (.slice (some ⟨g,0,none⟩) (n+1) c) rfl (fun w' hSw=>by have hq:=hSw;have hd:=HC0.out _ (yaa HB3.out hq);go_simp) gH ?_
   refine yg 6 (.int .i64 ((n:Int)+1)) rfl gH ?_
   refine yg 7 (.int .i64 1) rfl gH ?_
   simp only[Act.put,Ya,Yb,Yc,Yd,Ye,Yf]
   refine yg 8 (.int .i64 time) rfl gH ?_
   refine yg 9 (.string body) rfl gH ?_
   refine yS 1 14 (by kernel_rfl) rfl rfl (fun K1 hK1=>?_) (fun K1 hK1=>?_)
   · skip
     try simp only[Act.put,Ya,Yb,Yc,Yd,Ye,Yf]
     go_simp
     refine Calls.mono (HHd.out _ (yaa HB3.out gH)) ?_
     rintro e wc1 ⟨rfl,hc2⟩
     refine hK1.out _ _ (yaa gH hc2) (fun gH=>?_)
     clear hK1 K1
     refine yS 10 14 (by kernel_rfl) rfl rfl (fun K1 hK1=>?_) (fun K1 hK1=>?_)
     · skip
       try simp only[Act.put,Ya,Yb,Yc,Yd,Ye,Yf]
       go_simp
       refine Calls.mono (HLk.out _ (yaa HB3.out gH)) ?_
       rintro e wc3 ⟨rfl,hc4⟩
       refine hK1.out _ _ (yaa gH hc4) (fun gH=>?_)
       clear hK1 K1
       refine yg 11 (.tuple #[.agg CR.toArray,.int .i64 ee]) rfl gH ?_
       refine yg 12 (.agg CR.toArray) rfl gH ?_
       simp only[Act.put,Ya,Yb,Yc,Yd,Ye,Yf]
       refine yg 13 (.int .i64 ee) rfl gH ?_
       refine yR 14 (by kernel_rfl) rfl (fun K1 hK1=>?_)
       try simp only[Act.put,Ya,Yb,Yc,Yd,Ye,Yf]
       go_simp
       have hd6:=(Below.refl wc3.heap.size wc3).alloc (Nat.le_refl _) (.cells ZT.toArray 64)
       have rA:Row (wc3.alloc (.cells ZT.toArray 64)) wc3.heap.size 64 ZT:=Row.new wc3 64 ZT
       have rAs:w3.heap.size≤wc3.heap.size:=gH.size
       have eH:=yaa gH hd6
       generalize wc3.alloc (.cells ZT.toArray 64)=wa5 at *
       obtain⟨ga7,ga7e⟩ :∃ga7,ga7=wc3.heap.size:=⟨_,rfl⟩
       rw[←ga7e]at rA rAs ⊢
       refine hK1.out _ _ eH (fun gH=>?_)
       clear hK1 K1
       clear eH ga7e
       refine yR 15 (by kernel_rfl) rfl (fun K1 hK1=>?_)
       try simp only[Act.put,Ya,Yb,Yc,Yd,Ye,Yf]
       rw[if_pos (by rfl)]
       refine yar 64 (.tmp 15) (.tmp 62) rfl ga7 0 CR _ _ rfl rfl rA (by have:=HZ68.out;have:=HCR68.out;omega) (by rw[yaf,HCR68.out]) HCR1.out ?_
       intro ws8 hrS hgS
       rw[yad (HCR68.out.trans HZ68.out.symm)]at hrS
       have HR15:=yh hrS
       have eH:=below_own gH hgS (fun k hk=>by cases hk;exact rAs)
       clear hrS hgS
       refine hK1.out _ _ eH (fun gH=>?_)
       clear hK1 K1
       clear eH
       refine yg 16 (.int .i64 ee) rfl gH ?_
       refine wpAnyH_done (by kernel_rfl) ?_ _
       refine NoPanic.normal ?_
       have HB5:=yh (yaa HB3.out gH)
       have HR5:=yh (HR3.out.below gH)
       clear gH
       go_wp2_with (first
        | ((with_reducible show wpList _ _ _ (⟨_,.load 64 (.tmp 15),_,_,_,_⟩::_) _ _);refine yac rfl 64 (.tmp 15) rfl ga7 0 (rfl) CR _ (yah HR15.out) Tryz.underlying64 rfl (by rw[yaf,HCR68.out]) ?_)
        | (
           with_reducible show wpList _ _ _ (⟨_,.store 64 (.tmp 8) _,_,_,_,_⟩::_) _ _
           refine yab rfl 64 (.tmp 8) (.tmp 64) rfl w.heap.size 0 CR ZT _ rfl rfl (HR5.out) (by have:=HZ68.out;have:=HCR68.out;omega) (by rw[yaf,HCR68.out]) HCR1.out ?_
           intro w9 hr hg
           rw[yad (HCR68.out.trans HZ68.out.symm)]at hr
           have HS9:=yh hr
           have HB9:=yh (below_own HB5.out hg (fun k hk=>by cases hk;exact Nat.le_refl _))
           clear hr hg))
       refine bodyPost_ret (ya7 rfl _ _ w.heap.size 64 CR _ rfl HS9.out Tryz.underlying64 rfl (by rw[yaf];simp[HCR68.out]) _ _ rfl rfl) rfl ⟨by first|rfl|(rw[HMk.out];rfl),HB9.out⟩
     · skip
       try simp only[Act.put,Ya,Yb,Yc,Yd,Ye,Yf]
       go_simp
       have hd10:=(Below.refl wc1.heap.size wc1).alloc (Nat.le_refl _) (.cells ZT.toArray 64)
       have rA:Row (wc1.alloc (.cells ZT.toArray 64)) wc1.heap.size 64 ZT:=Row.new wc1 64 ZT
       have rAs:w3.heap.size≤wc1.heap.size:=gH.size
       have eH:=yaa gH hd10
       generalize wc1.alloc (.cells ZT.toArray 64)=wa9 at *
       obtain⟨ga11,ga11e⟩ :∃ga11,ga11=wc1.heap.size:=⟨_,rfl⟩
       rw[←ga11e]at rA rAs ⊢
       refine hK1.out _ _ eH (fun gH=>?_)
       clear hK1 K1
       clear eH ga11e
       refine yR 10 (by kernel_rfl) rfl (fun K1 hK1=>?_)
       try simp only[Act.put,Ya,Yb,Yc,Yd,Ye,Yf]
       go_simp
       refine Calls.mono (HLk.out _ (yaa HB3.out gH)) ?_
       rintro e wc12 ⟨rfl,hc13⟩
       have rA:=rA.kept (yae hc13 none) (by simp)
       refine hK1.out _ _ (yaa gH hc13) (fun gH=>?_)
       clear hK1 K1
       refine yg 11 (.tuple #[.agg CR.toArray,.int .i64 ee]) rfl gH ?_
       refine yg 12 (.agg CR.toArray) rfl gH ?_
       simp only[Act.put,Ya,Yb,Yc,Yd,Ye,Yf]
       refine yg 13 (.int .i64 ee) rfl gH ?_
       refine yR 15 (by kernel_rfl) rfl (fun K1 hK1=>?_)
       try simp only[Act.put,Ya,Yb,Yc,Yd,Ye,Yf]
       rw[if_pos (by rfl)]
       refine yar 64 (.tmp 15) (.tmp 62) rfl ga11 0 CR _ _ rfl rfl rA (by have:=HZ68.out;have:=HCR68.out;omega) (by rw[yaf,HCR68.out]) HCR1.out ?_
       intro ws14 hrS hgS
       rw[yad (HCR68.out.trans HZ68.out.symm)]at hrS
       have HR15:=yh hrS
       have eH:=below_own gH hgS (fun k hk=>by cases hk;exact rAs)
       clear hrS hgS
       refine hK1.out _ _ eH (fun gH=>?_)
       clear hK1 K1
       clear eH
       refine yg 16 (.int .i64 ee) rfl gH ?_
       refine wpAnyH_done (by kernel_rfl) ?_ _
       refine NoPanic.normal ?_
       have HB5:=yh (yaa HB3.out gH)
       have HR5:=yh (HR3.out.below gH)
       clear gH
       go_wp2_with (first
        | ((with_reducible show wpList _ _ _ (⟨_,.load 64 (.tmp 15),_,_,_,_⟩::_) _ _);refine yac rfl 64 (.tmp 15) rfl ga11 0 (rfl) CR _ (yah HR15.out) Tryz.underlying64 rfl (by rw[yaf,HCR68.out]) ?_)
        | (
           with_reducible show wpList _ _ _ (⟨_,.store 64 (.tmp 8) _,_,_,_,_⟩::_) _ _
           refine yab rfl 64 (.tmp 8) (.tmp 64) rfl w.heap.size 0 CR ZT _ rfl rfl (HR5.out) (by have:=HZ68.out;have:=HCR68.out;omega) (by rw[yaf,HCR68.out]) HCR1.out ?_
           intro w9 hr hg
           rw[yad (HCR68.out.trans HZ68.out.symm)]at hr
           have HS9:=yh hr
           have HB9:=yh (below_own HB5.out hg (fun k hk=>by cases hk;exact Nat.le_refl _))
           clear hr hg))
       refine bodyPost_ret (ya7 rfl _ _ w.heap.size 64 CR _ rfl HS9.out Tryz.underlying64 rfl (by rw[yaf];simp[HCR68.out]) _ _ rfl rfl) rfl ⟨by first|rfl|(rw[HMk.out];rfl),HB9.out⟩
   · skip
     try simp only[Act.put,Ya,Yb,Yc,Yd,Ye,Yf]
     go_simp
     have hd16:=(Below.refl wq.heap.size wq).alloc (Nat.le_refl _) (.cells ZT.toArray 64)
     have rA:Row (wq.alloc (.cells ZT.toArray 64)) wq.heap.size 64 ZT:=Row.new wq 64 ZT
     have rAs:w3.heap.size≤wq.heap.size:=gH.size
     have eH:=yaa gH hd16
     generalize wq.alloc (.cells ZT.toArray 64)=wa15 at *
     obtain⟨ga17,ga17e⟩ :∃ga17,ga17=wq.heap.size:=⟨_,rfl⟩
     rw[←ga17e]at rA rAs ⊢
     refine hK1.out _ _ eH (fun gH=>?_)
     clear hK1 K1
     clear eH ga17e
     refine yR 1 (by kernel_rfl) rfl (fun K1 hK1=>?_)
     try simp only[Act.put,Ya,Yb,Yc,Yd,Ye,Yf]
     go_simp
     refine Calls.mono (HHd.out _ (yaa HB3.out gH)) ?_
     rintro e wc18 ⟨rfl,hc19⟩
     have rA:=rA.kept (yae hc19 none) (by simp)
     refine hK1.out _ _ (yaa gH hc19) (fun gH=>?_)
     clear hK1 K1
     refine yR 10 (by kernel_rfl) rfl (fun K1 hK1=>?_)
     try simp only[Act.put,Ya,Yb,Yc,Yd,Ye,Yf]
     go_simp
     refine Calls.mono (HLk.out _ (yaa HB3.out gH)) ?_
     rintro e wc20 ⟨rfl,hc21⟩
     have rA:=rA.kept (yae hc21 none) (by simp)
     refine hK1.out _ _ (yaa gH hc21) (fun gH=>?_)
     clear hK1 K1
     refine yg 11 (.tuple #[.agg CR.toArray,.int .i64 ee]) rfl gH ?_
     refine yg 12 (.agg CR.toArray) rfl gH ?_
     simp only[Act.put,Ya,Yb,Yc,Yd,Ye,Yf]
     refine yg 13 (.int .i64 ee) rfl gH ?_
     refine yR 15 (by kernel_rfl) rfl (fun K1 hK1=>?_)
     try simp only[Act.put,Ya,Yb,Yc,Yd,Ye,Yf]
     rw[if_pos (by rfl)]
     refine yar 64 (.tmp 15) (.tmp 62) rfl ga17 0 CR _ _ rfl rfl rA (by have:=HZ68.out;have:=HCR68.out;omega) (by rw[yaf,HCR68.out]) HCR1.out ?_
     intro ws22 hrS hgS
     rw[yad (HCR68.out.trans HZ68.out.symm)]at hrS
     have HR15:=yh hrS
     have eH:=below_own gH hgS (fun k hk=>by cases hk;exact rAs)
     clear hrS hgS
     refine hK1.out _ _ eH (fun gH=>?_)
     clear hK1 K1
     clear eH
     refine yg 16 (.int .i64 ee) rfl gH ?_
     refine wpAnyH_done (by kernel_rfl) ?_ _
     refine NoPanic.normal ?_
     have HB5:=yh (yaa HB3.out gH)
     have HR5:=yh (HR3.out.below gH)
     clear gH
     go_wp2_with (first
      | ((with_reducible show wpList _ _ _ (⟨_,.load 64 (.tmp 15),_,_,_,_⟩::_) _ _);refine yac rfl 64 (.tmp 15) rfl ga17 0 (rfl) CR _ (yah HR15.out) Tryz.underlying64 rfl (by rw[yaf,HCR68.out]) ?_)
      | (
         with_reducible show wpList _ _ _ (⟨_,.store 64 (.tmp 8) _,_,_,_,_⟩::_) _ _
         refine yab rfl 64 (.tmp 8) (.tmp 64) rfl w.heap.size 0 CR ZT _ rfl rfl (HR5.out) (by have:=HZ68.out;have:=HCR68.out;omega) (by rw[yaf,HCR68.out]) HCR1.out ?_
         intro w9 hr hg
         rw[yad (HCR68.out.trans HZ68.out.symm)]at hr
         have HS9:=yh hr
         have HB9:=yh (below_own HB5.out hg (fun k hk=>by cases hk;exact Nat.le_refl _))
         clear hr hg))
     refine bodyPost_ret (ya7 rfl _ _ w.heap.size 64 CR _ rfl HS9.out Tryz.underlying64 rfl (by rw[yaf];simp[HCR68.out]) _ _ rfl rfl) rfl ⟨by first|rfl|(rw[HMk.out];rfl),HB9.out⟩
theorem LogAt.link_other_ok {w:World}{base B:Nat}{v dv:Value}{rs:List Rp}(h:LogAt w base B v dv rs)(kind:Int)(body:ByteArray)(time:Int)(hs:body.size≤140737488351232)(hT:Tab w)(hk:kind≠1)(he :¬(rs≠[]∧time<Od.last rs))(ha:(Od.ask rs kind body).2=0):Calls Tryz.prog 92 #[.pointer (some ⟨B,0,none⟩),.int .i64 kind,.string body,.int .i64 time] w fun e w'=>e=.returned (.tuple #[.agg (Od.mk rs kind body time).1.cells.toArray,.int .i64 (Od.mk rs kind body time).2.1,.int .i64 (Od.mk rs kind body time).2.2])∧Below w.heap.size w w':=by
 have hzv:=ydz
 have HBt:Hid (Tryz.prog.built 64 []=some Rp.zero.cells.toArray):=yh Rp.yaz
 have HZ68:=yh (Rp.yao Rp.yal.prev Rp.yal.hash)
 have HZ1:=yh (Rp.yan Rp.yal.prev Rp.yal.hash)
 obtain⟨ZT,hZT⟩:=yx (Rp.zero.cells)
 rw[hZT]at hzv HBt HZ68 HZ1
 have HZT:=yh hZT
 clear hZT
 have hb0:=(Below.refl w.heap.size w).alloc (Nat.le_refl _) (.cells ZT.toArray 64)
 have HB0:=yh hb0
 have HR0:=yh (Row.new w 64 ZT)
 have HH:=yh h
 have HTb:=yh hT
 have HBs:=yh hs
 have HKn:=yh hk
 clear hk
 have hmk:=Od.ycj he ha
 obtain⟨ak,hak⟩:=yx (Od.ask rs kind body)
 obtain⟨aw,ae⟩:=ak
 have HAk:=yh hak
 rw[hak]at ha hmk
 have ha0:ae=0:=ha
 subst ha0
 obtain⟨LE,hLE⟩:=yx (Rp.linkE (Od.raw rs kind body time))
 have hrf:LE.1.prev.length=32∧LE.1.hash.length=32:=by
  rw[←hLE]
  unfold Rp.linkE
  split
  · exact⟨h.good.head,Rp.ybf _⟩
  · exact⟨rfl,rfl⟩
 have HHd:Hid (∀W,Below w.heap.size w W→Calls Tryz.prog 129 #[.pointer (some ⟨B,0,none⟩)] W fun e w'=>e=.returned (.agg (bRow (Od.head rs)))∧Below W.heap.size W w'):=yh (fun W hW=>(HH.out.below hW).head)
 have HLk0:Hid (∀W,Below w.heap.size w W→Calls Tryz.prog 128 #[.agg (bRow (Od.head rs)),.int .i64 rs.length,.int .i64 kind,.int .i64 time,.string body] W fun e w'=>e=.returned (.tuple #[.agg LE.1.cells.toArray,.int .i64 LE.2])∧Below W.heap.size W w'):=yh (fun W hW=>by
  have:=ykd (rs.length:Int) kind time body (Od.head rs) HH.out.good.head W (HTb.out.below hW HTb.out.pos)
  rw[show (Rp.mk (rs.length:Int) kind time body (Od.head rs) Tx.zero)=Od.raw rs kind body time from rfl,hLE]at this
  exact this)
 rw[hLE]at hmk
 obtain⟨ee,hee⟩:=yx (LE.2)
 have HCR68:=yh (Rp.yao hrf.1 hrf.2)
 have HCR1:=yh (Rp.yan hrf.1 hrf.2)
 obtain⟨R,hRe⟩:=yx (LE.1)
 rw[hRe]at HCR68 HCR1 HLk0 hmk
 rw[hee]at HLk0 hmk
 have HMk:=yh hmk
 rw[HMk.out]
 obtain⟨CR,hCR⟩:=yx (R.cells)
 rw[hCR]at HCR68 HCR1 HLk0 ⊢
 generalize bRow (Od.head rs)=HDv at *
 have hawe:aw = -1:=by have:=HAk.out;unfold Od.ask at this;rw[if_neg HKn.out]at this;injection this with q1 q2;exact q1.symm
 subst hawe
 clear ha hak hLE hrf hmk hee hRe hCR
 obtain⟨A,c,hvA⟩:=h.form
 subst hvA
 have c0:=(h.below hb0).c0
 have HC0:Hid (∀W,Below w.heap.size w W→W.cell? ⟨B,0,none⟩=some (.slice A rs.length c)):=yh (fun W hW=>(HH.out.below hW).c0)
 clear h hb0 hT hs
 by_cases hne:rs=[]
 · have hlen:rs.length=0:=by rw[hne];rfl
   rw[hlen]at c0 HC0
   have HLz:Hid ((rs.length:Int)=0):=yh (by omega)
   have d0:decide ((0:Int)>0)=false:=by decide
   clear hlen
   clear hne he
   go_enter Tryz.func92,Tryz.ntmps92
   go_wp2_with fail
   refine(yhj B kind body _ HKn.out).mono ?_
   rintro _ w2 ⟨rfl,hb2⟩
   have HB2:=yh (yaa HB0.out hb2)
   have HR2:=yh (HR0.out.below hb2)
   clear hb2 c0
   go_wp2_with fail
   refine(ym6 _).mono ?_
   rintro _ w3 ⟨rfl,rfl⟩
   have HB3:=HB2
   have HR3:=HR2
   go_wp2_with fail
   have HLk:Hid (∀W,Below w.heap.size w W→Calls Tryz.prog 128 #[.agg HDv,.int .i64 0,.int .i64 kind,.int .i64 time,.string body] W fun e w'=>e=.returned (.tuple #[.agg CR.toArray,.int .i64 ee])∧Below W.heap.size W w'):=yh (fun W hW=>by
    have:=HLk0.out W hW
    rw[HLz.out]at this
    exact this)
   refine wp_region_noPanic ?_
   refine wp_region_held_drew (S:=fun w'=>Below w2.heap.size w2 w') (by kernel_rfl) ((Below.refl _ _).drew) (fun gH=>?_)
   generalize w2.drew=wq at *
   refine yg 0 (.pointer (some ⟨B,0,none⟩)) rfl gH ?_
   simp only[Act.put,Ya,Yb,Yc,Yd,Ye,Yf]
   refine yg 2 (.pointer (some ⟨B,0,none⟩)) rfl gH ?_
   refine yg 3 (.pointer (some ⟨B,0,none⟩)) rfl gH ?_
   refine yg 4 (.pointer (some ⟨B,0,none⟩)) rfl gH ?_
   simp only[Act.put,Ya,Yb,Yc,Yd,Ye,Yf]
   refine yk 5 (.slice A (0) c) rfl (fun w' hSw=>by have hq:=hSw;have hd:=HC0.out _ (yaa HB3.out hq);go_simp) gH ?_
   refine yg 6 (.int .i64 0) rfl gH ?_
   refine yg 7 (.int .i64 kind) rfl gH ?_
   simp only[Act.put,Ya,Yb,Yc,Yd,Ye,Yf]
   refine yg 8 (.int .i64 time) rfl gH ?_
   refine yg 9 (.string body) rfl gH ?_
   refine yS 1 14 (by kernel_rfl) rfl rfl (fun K1 hK1=>?_) (fun K1 hK1=>?_)
   · skip
     try simp only[Act.put,Ya,Yb,Yc,Yd,Ye,Yf]
     go_simp
     refine Calls.mono (HHd.out _ (yaa HB3.out gH)) ?_
     rintro e wc1 ⟨rfl,hc2⟩
     refine hK1.out _ _ (yaa gH hc2) (fun gH=>?_)
     clear hK1 K1
     refine yS 10 14 (by kernel_rfl) rfl rfl (fun K1 hK1=>?_) (fun K1 hK1=>?_)
     · skip
       try simp only[Act.put,Ya,Yb,Yc,Yd,Ye,Yf]
       go_simp
       refine Calls.mono (HLk.out _ (yaa HB3.out gH)) ?_
       rintro e wc3 ⟨rfl,hc4⟩
       refine hK1.out _ _ (yaa gH hc4) (fun gH=>?_)
       clear hK1 K1
       refine yg 11 (.tuple #[.agg CR.toArray,.int .i64 ee]) rfl gH ?_
       refine yg 12 (.agg CR.toArray) rfl gH ?_
       simp only[Act.put,Ya,Yb,Yc,Yd,Ye,Yf]
       refine yg 13 (.int .i64 ee) rfl gH ?_
       refine yR 14 (by kernel_rfl) rfl (fun K1 hK1=>?_)
       try simp only[Act.put,Ya,Yb,Yc,Yd,Ye,Yf]
       go_simp
       have hd6:=(Below.refl wc3.heap.size wc3).alloc (Nat.le_refl _) (.cells ZT.toArray 64)
       have rA:Row (wc3.alloc (.cells ZT.toArray 64)) wc3.heap.size 64 ZT:=Row.new wc3 64 ZT
       have rAs:w2.heap.size≤wc3.heap.size:=gH.size
       have eH:=yaa gH hd6
       generalize wc3.alloc (.cells ZT.toArray 64)=wa5 at *
       obtain⟨ga7,ga7e⟩ :∃ga7,ga7=wc3.heap.size:=⟨_,rfl⟩
       rw[←ga7e]at rA rAs ⊢
       refine hK1.out _ _ eH (fun gH=>?_)
       clear hK1 K1
       clear eH ga7e
       refine yR 15 (by kernel_rfl) rfl (fun K1 hK1=>?_)
       try simp only[Act.put,Ya,Yb,Yc,Yd,Ye,Yf]
       rw[if_pos (by rfl)]
       refine yar 64 (.tmp 15) (.tmp 62) rfl ga7 0 CR _ _ rfl rfl rA (by have:=HZ68.out;have:=HCR68.out;omega) (by rw[yaf,HCR68.out]) HCR1.out ?_
       intro ws8 hrS hgS
       rw[yad (HCR68.out.trans HZ68.out.symm)]at hrS
       have HR15:=yh hrS
       have eH:=below_own gH hgS (fun k hk=>by cases hk;exact rAs)
       clear hrS hgS
       refine hK1.out _ _ eH (fun gH=>?_)
       clear hK1 K1
       clear eH
       refine yg 16 (.int .i64 ee) rfl gH ?_
       refine wpAnyH_done (by kernel_rfl) ?_ _
       refine NoPanic.normal ?_
       have HB5:=yh (yaa HB3.out gH)
       have HR5:=yh (HR3.out.below gH)
       clear gH
       go_wp2_with (first
        | ((with_reducible show wpList _ _ _ (⟨_,.load 64 (.tmp 15),_,_,_,_⟩::_) _ _);refine yac rfl 64 (.tmp 15) rfl ga7 0 (rfl) CR _ (yah HR15.out) Tryz.underlying64 rfl (by rw[yaf,HCR68.out]) ?_)
        | (
           with_reducible show wpList _ _ _ (⟨_,.store 64 (.tmp 8) _,_,_,_,_⟩::_) _ _
           refine yab rfl 64 (.tmp 8) (.tmp 64) rfl w.heap.size 0 CR ZT _ rfl rfl (HR5.out) (by have:=HZ68.out;have:=HCR68.out;omega) (by rw[yaf,HCR68.out]) HCR1.out ?_
           intro w9 hr hg
           rw[yad (HCR68.out.trans HZ68.out.symm)]at hr
           have HS9:=yh hr
           have HB9:=yh (below_own HB5.out hg (fun k hk=>by cases hk;exact Nat.le_refl _))
           clear hr hg))
       refine bodyPost_ret (ya7 rfl _ _ w.heap.size 64 CR _ rfl HS9.out Tryz.underlying64 rfl (by rw[yaf];simp[HCR68.out]) _ _ rfl rfl) rfl ⟨by first|rfl|(rw[HMk.out];rfl),HB9.out⟩
     · skip
       try simp only[Act.put,Ya,Yb,Yc,Yd,Ye,Yf]
       go_simp
       have hd10:=(Below.refl wc1.heap.size wc1).alloc (Nat.le_refl _) (.cells ZT.toArray 64)
       have rA:Row (wc1.alloc (.cells ZT.toArray 64)) wc1.heap.size 64 ZT:=Row.new wc1 64 ZT
       have rAs:w2.heap.size≤wc1.heap.size:=gH.size
       have eH:=yaa gH hd10
       generalize wc1.alloc (.cells ZT.toArray 64)=wa9 at *
       obtain⟨ga11,ga11e⟩ :∃ga11,ga11=wc1.heap.size:=⟨_,rfl⟩
       rw[←ga11e]at rA rAs ⊢
       refine hK1.out _ _ eH (fun gH=>?_)
       clear hK1 K1
       clear eH ga11e
       refine yR 10 (by kernel_rfl) rfl (fun K1 hK1=>?_)
       try simp only[Act.put,Ya,Yb,Yc,Yd,Ye,Yf]
       go_simp
       refine Calls.mono (HLk.out _ (yaa HB3.out gH)) ?_
       rintro e wc12 ⟨rfl,hc13⟩
       have rA:=rA.kept (yae hc13 none) (by simp)
       refine hK1.out _ _ (yaa gH hc13) (fun gH=>?_)
       clear hK1 K1
       refine yg 11 (.tuple #[.agg CR.toArray,.int .i64 ee]) rfl gH ?_
       refine yg 12 (.agg CR.toArray) rfl gH ?_
       simp only[Act.put,Ya,Yb,Yc,Yd,Ye,Yf]
       refine yg 13 (.int .i64 ee) rfl gH ?_
       refine yR 15 (by kernel_rfl) rfl (fun K1 hK1=>?_)
       try simp only[Act.put,Ya,Yb,Yc,Yd,Ye,Yf]
       rw[if_pos (by rfl)]
       refine yar 64 (.tmp 15) (.tmp 62) rfl ga11 0 CR _ _ rfl rfl rA (by have:=HZ68.out;have:=HCR68.out;omega) (by rw[yaf,HCR68.out]) HCR1.out ?_
       intro ws14 hrS hgS
       rw[yad (HCR68.out.trans HZ68.out.symm)]at hrS
       have HR15:=yh hrS
       have eH:=below_own gH hgS (fun k hk=>by cases hk;exact rAs)
       clear hrS hgS
       refine hK1.out _ _ eH (fun gH=>?_)
       clear hK1 K1
       clear eH
       refine yg 16 (.int .i64 ee) rfl gH ?_
       refine wpAnyH_done (by kernel_rfl) ?_ _
       refine NoPanic.normal ?_
       have HB5:=yh (yaa HB3.out gH)
       have HR5:=yh (HR3.out.below gH)
       clear gH
       go_wp2_with (first
        | ((with_reducible show wpList _ _ _ (⟨_,.load 64 (.tmp 15),_,_,_,_⟩::_) _ _);refine yac rfl 64 (.tmp 15) rfl ga11 0 (rfl) CR _ (yah HR15.out) Tryz.underlying64 rfl (by rw[yaf,HCR68.out]) ?_)
        | (
           with_reducible show wpList _ _ _ (⟨_,.store 64 (.tmp 8) _,_,_,_,_⟩::_) _ _
           refine yab rfl 64 (.tmp 8) (.tmp 64) rfl w.heap.size 0 CR ZT _ rfl rfl (HR5.out) (by have:=HZ68.out;have:=HCR68.out;omega) (by rw[yaf,HCR68.out]) HCR1.out ?_
           intro w9 hr hg
           rw[yad (HCR68.out.trans HZ68.out.symm)]at hr
           have HS9:=yh hr
           have HB9:=yh (below_own HB5.out hg (fun k hk=>by cases hk;exact Nat.le_refl _))
           clear hr hg))
       refine bodyPost_ret (ya7 rfl _ _ w.heap.size 64 CR _ rfl HS9.out Tryz.underlying64 rfl (by rw[yaf];simp[HCR68.out]) _ _ rfl rfl) rfl ⟨by first|rfl|(rw[HMk.out];rfl),HB9.out⟩
   · skip
     try simp only[Act.put,Ya,Yb,Yc,Yd,Ye,Yf]
     go_simp
     have hd16:=(Below.refl wq.heap.size wq).alloc (Nat.le_refl _) (.cells ZT.toArray 64)
     have rA:Row (wq.alloc (.cells ZT.toArray 64)) wq.heap.size 64 ZT:=Row.new wq 64 ZT
     have rAs:w2.heap.size≤wq.heap.size:=gH.size
     have eH:=yaa gH hd16
     generalize wq.alloc (.cells ZT.toArray 64)=wa15 at *
     obtain⟨ga17,ga17e⟩ :∃ga17,ga17=wq.heap.size:=⟨_,rfl⟩
     rw[←ga17e]at rA rAs ⊢
     refine hK1.out _ _ eH (fun gH=>?_)
     clear hK1 K1
     clear eH ga17e
     refine yR 1 (by kernel_rfl) rfl (fun K1 hK1=>?_)
     try simp only[Act.put,Ya,Yb,Yc,Yd,Ye,Yf]
     go_simp
     refine Calls.mono (HHd.out _ (yaa HB3.out gH)) ?_
     rintro e wc18 ⟨rfl,hc19⟩
     have rA:=rA.kept (yae hc19 none) (by simp)
     refine hK1.out _ _ (yaa gH hc19) (fun gH=>?_)
     clear hK1 K1
     refine yR 10 (by kernel_rfl) rfl (fun K1 hK1=>?_)
     try simp only[Act.put,Ya,Yb,Yc,Yd,Ye,Yf]
     go_simp
     refine Calls.mono (HLk.out _ (yaa HB3.out gH)) ?_
     rintro e wc20 ⟨rfl,hc21⟩
     have rA:=rA.kept (yae hc21 none) (by simp)
     refine hK1.out _ _ (yaa gH hc21) (fun gH=>?_)
     clear hK1 K1
     refine yg 11 (.tuple #[.agg CR.toArray,.int .i64 ee]) rfl gH ?_
     refine yg 12 (.agg CR.toArray) rfl gH ?_
     simp only[Act.put,Ya,Yb,Yc,Yd,Ye,Yf]
     refine yg 13 (.int .i64 ee) rfl gH ?_
     refine yR 15 (by kernel_rfl) rfl (fun K1 hK1=>?_)
     try simp only[Act.put,Ya,Yb,Yc,Yd,Ye,Yf]
     rw[if_pos (by rfl)]
     refine yar 64 (.tmp 15) (.tmp 62) rfl ga17 0 CR _ _ rfl rfl rA (by have:=HZ68.out;have:=HCR68.out;omega) (by rw[yaf,HCR68.out]) HCR1.out ?_
     intro ws22 hrS hgS
     rw[yad (HCR68.out.trans HZ68.out.symm)]at hrS
     have HR15:=yh hrS
     have eH:=below_own gH hgS (fun k hk=>by cases hk;exact rAs)
     clear hrS hgS
     refine hK1.out _ _ eH (fun gH=>?_)
     clear hK1 K1
     clear eH
     refine yg 16 (.int .i64 ee) rfl gH ?_
     refine wpAnyH_done (by kernel_rfl) ?_ _
     refine NoPanic.normal ?_
     have HB5:=yh (yaa HB3.out gH)
     have HR5:=yh (HR3.out.below gH)
     clear gH
     go_wp2_with (first
      | ((with_reducible show wpList _ _ _ (⟨_,.load 64 (.tmp 15),_,_,_,_⟩::_) _ _);refine yac rfl 64 (.tmp 15) rfl ga17 0 (rfl) CR _ (yah HR15.out) Tryz.underlying64 rfl (by rw[yaf,HCR68.out]) ?_)
      | (
         with_reducible show wpList _ _ _ (⟨_,.store 64 (.tmp 8) _,_,_,_,_⟩::_) _ _
         refine yab rfl 64 (.tmp 8) (.tmp 64) rfl w.heap.size 0 CR ZT _ rfl rfl (HR5.out) (by have:=HZ68.out;have:=HCR68.out;omega) (by rw[yaf,HCR68.out]) HCR1.out ?_
         intro w9 hr hg
         rw[yad (HCR68.out.trans HZ68.out.symm)]at hr
         have HS9:=yh hr
         have HB9:=yh (below_own HB5.out hg (fun k hk=>by cases hk;exact Nat.le_refl _))
         clear hr hg))
     refine bodyPost_ret (ya7 rfl _ _ w.heap.size 64 CR _ rfl HS9.out Tryz.underlying64 rfl (by rw[yaf];simp[HCR68.out]) _ _ rfl rfl) rfl ⟨by first|rfl|(rw[HMk.out];rfl),HB9.out⟩
 · obtain⟨n,hn⟩ :∃n,rs.length=n+1:=⟨rs.length-1,by have:=List.length_pos_iff.2 hne;omega⟩
   have hlt :¬time<(rs[n]'(by omega)).time:=fun q=>he ⟨hne,by rw[(Od.ydb hn).2];exact q⟩
   have hl:=HH.out.len
   have hf:=HH.out.fits _ (List.getElem_mem (by omega:n<rs.length))
   obtain⟨g,c',hge,_,hgl⟩:=HH.out.own.ne hne
   injection hge with ea eb ec
   subst ea
   clear eb ec
   have ct:(w.alloc (.cells ZT.toArray 64)).cell? ⟨g,n*68+2,none⟩=some (.int .i64 (rs[n]'(by omega)).time):=(HB0.out.cell (p:=⟨g,n*68+2,none⟩) hgl).trans (Rp.at hf.prev (HH.out.own.at (Rp.lens HH.out.fits) n (by omega))).2.2.1
   obtain⟨tm,htm⟩:=yx ((rs[n]'(by omega)).time)
   rw[htm]at hlt ct
   rw[hn]at c0 hl
   have ew:IntKind.i64.wrap ((n:Int)+1-1)=(n:Int):=(IntWalk.i64_in _ (by omega)).trans (by omega)
   have ew':(n:Int)+1-1=(n:Int):=by omega
   have ew2:IntKind.i64.wrap (n:Int)=(n:Int):=IntWalk.i64_in _ (by omega)
   have hk0:(0:Int)≤(n:Int):=by omega
   have hkn:(n:Int)<(n:Int)+1:=by omega
   have d0:decide ((n:Int)+1>0)=true:=decide_eq_true (by omega)
   have d0':decide ((0:Int)<(n:Int)+1)=true:=decide_eq_true (by omega)
   have d1:decide (time<tm)=false:=decide_eq_false hlt
   have HNn:=yh hn
   clear hn hlt hf hgl htm hl
   rw[HNn.out]at HC0
   have HLz:Hid ((rs.length:Int)=(n:Int)+1):=yh (by rw[HNn.out];omega)
   clear hne he
   go_enter Tryz.func92,Tryz.ntmps92
   go_wp2_with fail
   refine(yhj B kind body _ HKn.out).mono ?_
   rintro _ w2 ⟨rfl,hb2⟩
   have HB2:=yh (yaa HB0.out hb2)
   have HR2:=yh (HR0.out.below hb2)
   clear hb2 c0
   go_wp2_with fail
   refine(ym6 _).mono ?_
   rintro _ w3 ⟨rfl,rfl⟩
   have HB3:=HB2
   have HR3:=HR2
   go_wp2_with fail
   have HLk:Hid (∀W,Below w.heap.size w W→Calls Tryz.prog 128 #[.agg HDv,.int .i64 ((n:Int)+1),.int .i64 kind,.int .i64 time,.string body] W fun e w'=>e=.returned (.tuple #[.agg CR.toArray,.int .i64 ee])∧Below W.heap.size W w'):=yh (fun W hW=>by
    have:=HLk0.out W hW
    rw[HLz.out]at this
    exact this)
   refine wp_region_noPanic ?_
   refine wp_region_held_drew (S:=fun w'=>Below w2.heap.size w2 w') (by kernel_rfl) ((Below.refl _ _).drew) (fun gH=>?_)
   generalize w2.drew=wq at *
   refine yg 0 (.pointer (some ⟨B,0,none⟩)) rfl gH ?_
   simp only[Act.put,Ya,Yb,Yc,Yd,Ye,Yf]
   refine yg 2 (.pointer (some ⟨B,0,none⟩)) rfl gH ?_
   refine yg 3 (.pointer (some ⟨B,0,none⟩)) rfl gH ?_
   refine yg 4 (.pointer (some ⟨B,0,none⟩)) rfl gH ?_
   simp only[Act.put,Ya,Yb,Yc,Yd,Ye,Yf]
   refine yk 5 (.slice (some ⟨g,0,none⟩) (n+1) c) rfl (fun w' hSw=>by have hq:=hSw;have hd:=HC0.out _ (yaa HB3.out hq);go_simp) gH ?_
   refine yg 6 (.int .i64 ((n:Int)+1)) rfl gH ?_
   refine yg 7 (.int .i64 kind) rfl gH ?_
   simp only[Act.put,Ya,Yb,Yc,Yd,Ye,Yf]
   refine yg 8 (.int .i64 time) rfl gH ?_
   refine yg 9 (.string body) rfl gH ?_
   refine yS 1 14 (by kernel_rfl) rfl rfl (fun K1 hK1=>?_) (fun K1 hK1=>?_)
   · skip
     try simp only[Act.put,Ya,Yb,Yc,Yd,Ye,Yf]
     go_simp
     refine Calls.mono (HHd.out _ (yaa HB3.out gH)) ?_
     rintro e wc1 ⟨rfl,hc2⟩
     refine hK1.out _ _ (yaa gH hc2) (fun gH=>?_)
     clear hK1 K1
     refine yS 10 14 (by kernel_rfl) rfl rfl (fun K1 hK1=>?_) (fun K1 hK1=>?_)
     · skip
       try simp only[Act.put,Ya,Yb,Yc,Yd,Ye,Yf]
       go_simp
       refine Calls.mono (HLk.out _ (yaa HB3.out gH)) ?_
       rintro e wc3 ⟨rfl,hc4⟩
       refine hK1.out _ _ (yaa gH hc4) (fun gH=>?_)
       clear hK1 K1
       refine yg 11 (.tuple #[.agg CR.toArray,.int .i64 ee]) rfl gH ?_
       refine yg 12 (.agg CR.toArray) rfl gH ?_
       simp only[Act.put,Ya,Yb,Yc,Yd,Ye,Yf]
       refine yg 13 (.int .i64 ee) rfl gH ?_
       refine yR 14 (by kernel_rfl) rfl (fun K1 hK1=>?_)
       try simp only[Act.put,Ya,Yb,Yc,Yd,Ye,Yf]
       go_simp
       have hd6:=(Below.refl wc3.heap.size wc3).alloc (Nat.le_refl _) (.cells ZT.toArray 64)
       have rA:Row (wc3.alloc (.cells ZT.toArray 64)) wc3.heap.size 64 ZT:=Row.new wc3 64 ZT
       have rAs:w2.heap.size≤wc3.heap.size:=gH.size
       have eH:=yaa gH hd6
       generalize wc3.alloc (.cells ZT.toArray 64)=wa5 at *
       obtain⟨ga7,ga7e⟩ :∃ga7,ga7=wc3.heap.size:=⟨_,rfl⟩
       rw[←ga7e]at rA rAs ⊢
       refine hK1.out _ _ eH (fun gH=>?_)
       clear hK1 K1
       clear eH ga7e
       refine yR 15 (by kernel_rfl) rfl (fun K1 hK1=>?_)
       try simp only[Act.put,Ya,Yb,Yc,Yd,Ye,Yf]
       rw[if_pos (by rfl)]
       refine yar 64 (.tmp 15) (.tmp 62) rfl ga7 0 CR _ _ rfl rfl rA (by have:=HZ68.out;have:=HCR68.out;omega) (by rw[yaf,HCR68.out]) HCR1.out ?_
       intro ws8 hrS hgS
       rw[yad (HCR68.out.trans HZ68.out.symm)]at hrS
       have HR15:=yh hrS
       have eH:=below_own gH hgS (fun k hk=>by cases hk;exact rAs)
       clear hrS hgS
       refine hK1.out _ _ eH (fun gH=>?_)
       clear hK1 K1
       clear eH
       refine yg 16 (.int .i64 ee) rfl gH ?_
       refine wpAnyH_done (by kernel_rfl) ?_ _
       refine NoPanic.normal ?_
       have HB5:=yh (yaa HB3.out gH)
       have HR5:=yh (HR3.out.below gH)
       clear gH
       go_wp2_with (first
        | ((with_reducible show wpList _ _ _ (⟨_,.load 64 (.tmp 15),_,_,_,_⟩::_) _ _);refine yac rfl 64 (.tmp 15) rfl ga7 0 (rfl) CR _ (yah HR15.out) Tryz.underlying64 rfl (by rw[yaf,HCR68.out]) ?_)
        | (
           with_reducible show wpList _ _ _ (⟨_,.store 64 (.tmp 8) _,_,_,_,_⟩::_) _ _
           refine yab rfl 64 (.tmp 8) (.tmp 64) rfl w.heap.size 0 CR ZT _ rfl rfl (HR5.out) (by have:=HZ68.out;have:=HCR68.out;omega) (by rw[yaf,HCR68.out]) HCR1.out ?_
           intro w9 hr hg
           rw[yad (HCR68.out.trans HZ68.out.symm)]at hr
           have HS9:=yh hr
           have HB9:=yh (below_own HB5.out hg (fun k hk=>by cases hk;exact Nat.le_refl _))
           clear hr hg))
       refine bodyPost_ret (ya7 rfl _ _ w.heap.size 64 CR _ rfl HS9.out Tryz.underlying64 rfl (by rw[yaf];simp[HCR68.out]) _ _ rfl rfl) rfl ⟨by first|rfl|(rw[HMk.out];rfl),HB9.out⟩
     · skip
       try simp only[Act.put,Ya,Yb,Yc,Yd,Ye,Yf]
       go_simp
       have hd10:=(Below.refl wc1.heap.size wc1).alloc (Nat.le_refl _) (.cells ZT.toArray 64)
       have rA:Row (wc1.alloc (.cells ZT.toArray 64)) wc1.heap.size 64 ZT:=Row.new wc1 64 ZT
       have rAs:w2.heap.size≤wc1.heap.size:=gH.size
       have eH:=yaa gH hd10
       generalize wc1.alloc (.cells ZT.toArray 64)=wa9 at *
       obtain⟨ga11,ga11e⟩ :∃ga11,ga11=wc1.heap.size:=⟨_,rfl⟩
       rw[←ga11e]at rA rAs ⊢
       refine hK1.out _ _ eH (fun gH=>?_)
       clear hK1 K1
       clear eH ga11e
       refine yR 10 (by kernel_rfl) rfl (fun K1 hK1=>?_)
       try simp only[Act.put,Ya,Yb,Yc,Yd,Ye,Yf]
       go_simp
       refine Calls.mono (HLk.out _ (yaa HB3.out gH)) ?_
       rintro e wc12 ⟨rfl,hc13⟩
       have rA:=rA.kept (yae hc13 none) (by simp)
       refine hK1.out _ _ (yaa gH hc13) (fun gH=>?_)
       clear hK1 K1
       refine yg 11 (.tuple #[.agg CR.toArray,.int .i64 ee]) rfl gH ?_
       refine yg 12 (.agg CR.toArray) rfl gH ?_
       simp only[Act.put,Ya,Yb,Yc,Yd,Ye,Yf]
       refine yg 13 (.int .i64 ee) rfl gH ?_
       refine yR 15 (by kernel_rfl) rfl (fun K1 hK1=>?_)
       try simp only[Act.put,Ya,Yb,Yc,Yd,Ye,Yf]
       rw[if_pos (by rfl)]
       refine yar 64 (.tmp 15) (.tmp 62) rfl ga11 0 CR _ _ rfl rfl rA (by have:=HZ68.out;have:=HCR68.out;omega) (by rw[yaf,HCR68.out]) HCR1.out ?_
       intro ws14 hrS hgS
       rw[yad (HCR68.out.trans HZ68.out.symm)]at hrS
       have HR15:=yh hrS
       have eH:=below_own gH hgS (fun k hk=>by cases hk;exact rAs)
       clear hrS hgS
       refine hK1.out _ _ eH (fun gH=>?_)
       clear hK1 K1
       clear eH
       refine yg 16 (.int .i64 ee) rfl gH ?_
       refine wpAnyH_done (by kernel_rfl) ?_ _
       refine NoPanic.normal ?_
       have HB5:=yh (yaa HB3.out gH)
       have HR5:=yh (HR3.out.below gH)
       clear gH
       go_wp2_with (first
        | ((with_reducible show wpList _ _ _ (⟨_,.load 64 (.tmp 15),_,_,_,_⟩::_) _ _);refine yac rfl 64 (.tmp 15) rfl ga11 0 (rfl) CR _ (yah HR15.out) Tryz.underlying64 rfl (by rw[yaf,HCR68.out]) ?_)
        | (
           with_reducible show wpList _ _ _ (⟨_,.store 64 (.tmp 8) _,_,_,_,_⟩::_) _ _
           refine yab rfl 64 (.tmp 8) (.tmp 64) rfl w.heap.size 0 CR ZT _ rfl rfl (HR5.out) (by have:=HZ68.out;have:=HCR68.out;omega) (by rw[yaf,HCR68.out]) HCR1.out ?_
           intro w9 hr hg
           rw[yad (HCR68.out.trans HZ68.out.symm)]at hr
           have HS9:=yh hr
           have HB9:=yh (below_own HB5.out hg (fun k hk=>by cases hk;exact Nat.le_refl _))
           clear hr hg))
       refine bodyPost_ret (ya7 rfl _ _ w.heap.size 64 CR _ rfl HS9.out Tryz.underlying64 rfl (by rw[yaf];simp[HCR68.out]) _ _ rfl rfl) rfl ⟨by first|rfl|(rw[HMk.out];rfl),HB9.out⟩
   · skip
     try simp only[Act.put,Ya,Yb,Yc,Yd,Ye,Yf]
     go_simp
     have hd16:=(Below.refl wq.heap.size wq).alloc (Nat.le_refl _) (.cells ZT.toArray 64)
     have rA:Row (wq.alloc (.cells ZT.toArray 64)) wq.heap.size 64 ZT:=Row.new wq 64 ZT
     have rAs:w2.heap.size≤wq.heap.size:=gH.size
     have eH:=yaa gH hd16
     generalize wq.alloc (.cells ZT.toArray 64)=wa15 at *
     obtain⟨ga17,ga17e⟩ :∃ga17,ga17=wq.heap.size:=⟨_,rfl⟩
     rw[←ga17e]at rA rAs ⊢
     refine hK1.out _ _ eH (fun gH=>?_)
     clear hK1 K1
     clear eH ga17e
     refine yR 1 (by kernel_rfl) rfl (fun K1 hK1=>?_)
     try simp only[Act.put,Ya,Yb,Yc,Yd,Ye,Yf]
     go_simp
     refine Calls.mono (HHd.out _ (yaa HB3.out gH)) ?_
     rintro e wc18 ⟨rfl,hc19⟩
     have rA:=rA.kept (yae hc19 none) (by simp)
     refine hK1.out _ _ (yaa gH hc19) (fun gH=>?_)
     clear hK1 K1
     refine yR 10 (by kernel_rfl) rfl (fun K1 hK1=>?_)
     try simp only[Act.put,Ya,Yb,Yc,Yd,Ye,Yf]
     go_simp
     refine Calls.mono (HLk.out _ (yaa HB3.out gH)) ?_
     rintro e wc20 ⟨rfl,hc21⟩
     have rA:=rA.kept (yae hc21 none) (by simp)
     refine hK1.out _ _ (yaa gH hc21) (fun gH=>?_)
     clear hK1 K1
     refine yg 11 (.tuple #[.agg CR.toArray,.int .i64 ee]) rfl gH ?_
     refine yg 12 (.agg CR.toArray) rfl gH ?_
     simp only[Act.put,Ya,Yb,Yc,Yd,Ye,Yf]
     refine yg 13 (.int .i64 ee) rfl gH ?_
     refine yR 15 (by kernel_rfl) rfl (fun K1 hK1=>?_)
     try simp only[Act.put,Ya,Yb,Yc,Yd,Ye,Yf]
     rw[if_pos (by rfl)]
     refine yar 64 (.tmp 15) (.tmp 62) rfl ga17 0 CR _ _ rfl rfl rA (by have:=HZ68.out;have:=HCR68.out;omega) (by rw[yaf,HCR68.out]) HCR1.out ?_
     intro ws22 hrS hgS
     rw[yad (HCR68.out.trans HZ68.out.symm)]at hrS
     have HR15:=yh hrS
     have eH:=below_own gH hgS (fun k hk=>by cases hk;exact rAs)
     clear hrS hgS
     refine hK1.out _ _ eH (fun gH=>?_)
     clear hK1 K1
     clear eH
     refine yg 16 (.int .i64 ee) rfl gH ?_
     refine wpAnyH_done (by kernel_rfl) ?_ _
     refine NoPanic.normal ?_
     have HB5:=yh (yaa HB3.out gH)
     have HR5:=yh (HR3.out.below gH)
     clear gH
     go_wp2_with (first
      | ((with_reducible show wpList _ _ _ (⟨_,.load 64 (.tmp 15),_,_,_,_⟩::_) _ _);refine yac rfl 64 (.tmp 15) rfl ga17 0 (rfl) CR _ (yah HR15.out) Tryz.underlying64 rfl (by rw[yaf,HCR68.out]) ?_)
      | (
         with_reducible show wpList _ _ _ (⟨_,.store 64 (.tmp 8) _,_,_,_,_⟩::_) _ _
         refine yab rfl 64 (.tmp 8) (.tmp 64) rfl w.heap.size 0 CR ZT _ rfl rfl (HR5.out) (by have:=HZ68.out;have:=HCR68.out;omega) (by rw[yaf,HCR68.out]) HCR1.out ?_
         intro w9 hr hg
         rw[yad (HCR68.out.trans HZ68.out.symm)]at hr
         have HS9:=yh hr
         have HB9:=yh (below_own HB5.out hg (fun k hk=>by cases hk;exact Nat.le_refl _))
         clear hr hg))
     refine bodyPost_ret (ya7 rfl _ _ w.heap.size 64 CR _ rfl HS9.out Tryz.underlying64 rfl (by rw[yaf];simp[HCR68.out]) _ _ rfl rfl) rfl ⟨by first|rfl|(rw[HMk.out];rfl),HB9.out⟩
theorem LogAt.link {w:World}{base B:Nat}{v dv:Value}{rs:List Rp}(h:LogAt w base B v dv rs)(kind:Int)(body:ByteArray)(time:Int)(hs:body.size≤140737488351232)(hT:Tab w):Calls Tryz.prog 92 #[.pointer (some ⟨B,0,none⟩),.int .i64 kind,.string body,.int .i64 time] w fun e w'=>e=.returned (.tuple #[.agg (Od.mk rs kind body time).1.cells.toArray,.int .i64 (Od.mk rs kind body time).2.1,.int .i64 (Od.mk rs kind body time).2.2])∧Below w.heap.size w w':=by
 by_cases he:rs≠[]∧time<Od.last rs
 · exact h.link_early kind body time he
 by_cases hk:kind=1
 · subst hk
   by_cases ha:(Od.ask rs 1 body).2=0
   · exact h.link_tx_ok body time hs hT he ha
   · exact h.link_tx_no body time hs hT he ha
 · exact h.link_other_ok kind body time hs hT hk he (by unfold Od.ask;rw[if_neg hk])
end Go.Proofs.YtalfnadejpmjnaaGreatDoor
