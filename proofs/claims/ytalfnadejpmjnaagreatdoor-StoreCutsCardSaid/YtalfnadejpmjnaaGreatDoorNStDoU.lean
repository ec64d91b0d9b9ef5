/- A part. -/
import Derived.Test.YtalfnadejpmjnaaGreatDoorNStDoT
set_option linter.unusedVariables false
set_option linter.unusedSimpArgs false
set_option maxRecDepth 100000
set_option maxHeartbeats 25600000
namespace Go.Proofs.YtalfnadejpmjnaaGreatDoor
open Go.RowKit
theorem yu4 {c:Ct}(h :∀x∈c.nums,Tx.fits x) :∃ls,Tryz.prog.keyLits 3 CtT c.cells=some ls:=by
 have hc:Tryz.prog.cellsOf CtT=4:=by kernel_rfl
 have hI:Tryz.prog.cellsOf 3=1:=by kernel_rfl
 refine⟨[.int .i64 c.seq,.int .i64 c.first,.int .i64 c.before,.int .i64 c.count],?_⟩
 unfold Program.keyLits
 simp only[Tryz.underlying52]
 rw[if_pos ⟨by rw[hc];rfl,by kernel_rfl⟩]
 have e0:Tryz.prog.keyLits 2 3 ((c.cells.drop 0).take (Tryz.prog.cellsOf 3))=some [.int .i64 c.seq]:=by rw[hI];exact yck 1 (h _ (by simp[Ct.nums]))
 have e1:Tryz.prog.keyLits 2 3 ((c.cells.drop 1).take (Tryz.prog.cellsOf 3))=some [.int .i64 c.first]:=by rw[hI];exact yck 1 (h _ (by simp[Ct.nums]))
 have e2:Tryz.prog.keyLits 2 3 ((c.cells.drop 2).take (Tryz.prog.cellsOf 3))=some [.int .i64 c.before]:=by rw[hI];exact yck 1 (h _ (by simp[Ct.nums]))
 have e3:Tryz.prog.keyLits 2 3 ((c.cells.drop 3).take (Tryz.prog.cellsOf 3))=some [.int .i64 c.count]:=by rw[hI];exact yck 1 (h _ (by simp[Ct.nums]))
 simp only[List.mapM_cons,List.mapM_nil,e0,e1,e2,e3,Option.bind_eq_bind,Option.bind_some,Option.pure_def,Option.map_some]
 rfl
theorem ct_eqD (W:World)(c:Ct)(h :∀x∈c.nums,Tx.fits x):(Op.equalIn 10000 CtT (.agg c.cells.toArray) (.agg c.cells.toArray)).run Tryz.prog W=.ok true W:=by
 obtain⟨ls,hl⟩:=yu4 h
 have hk:Tryz.prog.keyTypeAt 3 CtT=true:=by kernel_rfl
 have hf:(Value.agg c.cells.toArray).formed Tryz.prog CtT=true:=by
  have hc:Tryz.prog.cellsOf CtT=4:=by kernel_rfl
  simp[Value.formed,Tryz.underlying52,hc,Ct.cells]
 obtain⟨r,hr,hiff⟩:=run_equalIn_deep (P:=Tryz.prog) 9997 3 CtT hk W 3 3 (.agg c.cells.toArray) (.agg c.cells.toArray) _ _ hf hf hl hl
 have:r=true:=hiff.2 rfl
 rw[hr,this]
theorem yr9 {w0 W:World}{p g m:Nat}{l l':List Jn.Fl}{r r':Int}{j j':Jn.Jr.J}{rs:List Rp}{cs:List Ct}{rel:Int}{sc:Int}(hsit:Sit w0 W p g m l r j rs cs rel false rel sc false rs cs)(hc:CtsOk cs)(nn:Int)(ac:List Value)(hac :∀(W':World) b,Row W' b AcT ac→W'.cell? ⟨b,0,none⟩=some (.int .i64 2)∧W'.cell? ⟨b,3,none⟩=some (.int .i64 nn))(CR:Ct)
 (hcu :∀(W':World) rows,St w0 W' p g l r j rs cs rel false rows→Calls Tryz.prog 31 #[.pointer (some ⟨p,0,none⟩),.int .i64 nn] W' fun e w'=>e=.returned (.tuple #[.agg CR.cells.toArray,.int .i64 0])∧St w0 w' p g l' r' j' rs (cs ++ [CR]) rel false rows)
 (hnn :¬nn<1) (hlfn :¬(rs.length:Int)-ctSum cs cs.length<nn) (hr0:r≠0) (hCR:wCut rs cs nn=CR) (hct :∀x∈CR.nums,Tx.fits x):
 Calls Tryz.prog 12 #[.pointer (some ⟨m,0,none⟩),.agg ac.toArray] W fun e w'=>e=.returned (.bool true)∧Sit w0 w' p g m l' r' j' rs (cs ++ [CR]) rel false rel sc false rs (cs ++ [CR]):=by
 obtain⟨v,u,xr,yr,h,h1,h2⟩:=hsit
 obtain⟨q1,q2,q3⟩:=h.sit h1 h2
 obtain⟨hfit,hlen⟩:=h.lists
 obtain⟨AL,cL,rfl,_,_⟩:=q1.form
 obtain⟨AC,cC,rfl,_,_⟩:=q2.form
 have hA:=h.alloc AcT ac
 have hLe :∀(W':World) rows,St w0 W' p g l' r' j' rs (cs ++ [CR]) rel false rows→(∀x∈(m,WT,WS g p (.slice AL rs.length cL) (.slice AC cs.length cC) rel sc false)::(xr++yr),x∈rows)→Calls Tryz.prog 19 #[.pointer (some ⟨m,0,none⟩)] W' fun e w'=>e=.returned (.int .i64 ((rs.length:Int)-ctSum cs cs.length))∧Below W'.heap.size W' w':=fun W' rows hs hm=>by
  obtain⟨z1,z2,z3⟩:=(hs.less hm).sit h1 h2
  exact yjn z3 z1 z2 hc hfit hlen
 have hCw :∀(W':World) rows,St w0 W' p g l' r' j' rs (cs ++ [CR]) rel false rows→(∀x∈(m,WT,WS g p (.slice AL rs.length cL) (.slice AC cs.length cC) rel sc false)::(xr++yr),x∈rows)→Calls Tryz.prog 38 #[.pointer (some ⟨m,0,none⟩),.int .i64 nn] W' fun e w'=>e=.returned (.agg CR.cells.toArray)∧Below W'.heap.size W' w':=fun W' rows hs hm=>by
  obtain⟨z1,z2,z3⟩:=(hs.less hm).sit h1 h2
  rw[←hCR]
  exact ymc z3 z1 z2 hc hfit hlen nn
 have hSi :∀(W':World) rows,St w0 W' p g l' r' j' rs (cs ++ [CR]) rel false rows→(∀x∈(m,WT,WS g p (.slice AL rs.length cL) (.slice AC cs.length cC) rel sc false)::(xr++yr),x∈rows)→OwnL W' w0.heap.size RpT 68 Rp.cells (.slice AL rs.length cL) rs∧OwnL W' w0.heap.size CtT 4 Ct.cells (.slice AC cs.length cC) cs∧Row W' m WT (WS g p (.slice AL rs.length cL) (.slice AC cs.length cC) rel sc false):=fun W' rows hs hm=>(hs.less hm).sit h1 h2
 have HEq:=yh (fun W=>ct_eqD W CR hct)
 have HCl:Hid (cs.length≤100000):=yh (by have:=hc.1;omega)
 have HAc:=yh hac
 have H1:=yh h1
 have H2:=yh h2
 have HCu:=yh hcu
 have hz:=yjb
 have HZ4:Hid (Ct.zero.cells.length=4):=yh rfl
 obtain⟨ZT,hZT⟩:=yx (Ct.zero.cells)
 rw[hZT]at hz HZ4
 have HC4:Hid (CR.cells.length=4):=yh rfl
 have HC1:=yh (Ct.one CR)
 obtain⟨CC,hCC⟩:=yx (CR.cells)
 rw[hCC]at HC4 HC1 HCu HEq hCw
 have HCC:=yh hCC
 obtain⟨n,hn⟩:=yx (rs.length)
 obtain⟨nc,hnc⟩:=yx (cs.length)
 obtain⟨lf,hlf⟩:=yx ((rs.length:Int)-ctSum cs cs.length)
 rw[hlf]at hlfn hLe
 rw[hn,hnc]at hA hLe hCw hSi
 rw[hn]at H1
 rw[hnc]at H2
 have HLe:=yh hLe
 have HCw:=yh hCw
 have HSi:=yh hSi
 have HA:=yh hA
 clear hac h h1 h2 q1 q2 q3 hA hfit hlen hc hcu hLe hCw hSi hct hCR hZT hCC hn hnc hlf
 have HD:=yh HA.out.down
 rw[decide_eq_false hr0]at HD
 have d1:decide (nn<1)=false:=decide_eq_false hnn
 have d2:decide (lf<nn)=false:=decide_eq_false hlfn
 have d2':decide (nn>lf)=false:=d2
 clear hnn hlfn hr0
 have m0:=(ycd (HA.out.brow (gx:=m) (T:=WT) (X:=(WS g p (.slice AL n cL) (.slice AC nc cC) rel sc false)) (by simp))).1
 have a0:=(HAc.out _ _ (HA.out.brow (gx:=W.heap.size) (T:=AcT) (X:=ac) (by simp))).1
 go_enter Tryz.func12,Tryz.ntmps12
 go_wp2_with fail
 refine HD.out.mono ?_
 rintro _ _ ⟨rfl,rfl⟩
 clear HD m0
 go_upto_region 23 with fail
 obtain⟨W1,hW1⟩:=yx (W.alloc (.cells ac.toArray AcT))
 rw[hW1]at HA a0
 simp only[hW1]
 clear hW1
 generalize W.heap.size=ga at *
 have HF:Hid (∀W':World,Row W' m WT (WS g p (.slice AL n cL) (.slice AC nc cC) rel sc false)→Row W' ga AcT ac→W'.cell? ⟨m,1,none⟩=some (.pointer (some ⟨p,0,none⟩))∧W'.cell? ⟨ga,3,none⟩=some (.int .i64 nn)):=yh (fun W' hx hy=>⟨(ycd hx).2.1,(HAc.out _ _ hy).2⟩)
 go_cut [14,15] (fun s14 s15 wc =>∃g14,s14=.pointer (some ⟨g14,0,none⟩)∧s15=.int .i64 0∧St w0 wc p g l' r' j' rs (cs ++ [CR]) rel false ((g14,CtT,CC)::(ga,AcT,ac)::(m,WT,(WS g p (.slice AL n cL) (.slice AC nc cC) rel sc false))::(xr++yr)))
 case first=>
  have HDx:=yh (HA.out.below (Below.refl _ _).drew)
  clear HA a0
  go_wp2_with fail
  refine wp_region_held_drew (S:=fun w'=>w'.cell? ⟨m,1,none⟩=some (.pointer (some ⟨p,0,none⟩))∧w'.cell? ⟨ga,3,none⟩=some (.int .i64 nn)) (by kernel_rfl) (HF.out _ (HDx.out.brow (gx:=m) (T:=WT) (by simp)) (HDx.out.brow (gx:=ga) (T:=AcT) (by simp))) (fun gH=>?_)
  generalize W1.drew=wq at *
  refine yg 0 (.pointer (some ⟨m,0,none⟩)) rfl gH ?_
  refine yg 1 (.pointer (some ⟨m,0,none⟩)) rfl gH ?_
  refine yg 2 (.pointer (some ⟨m,1,none⟩)) rfl gH ?_
  simp only[Act.put,Ya,Yb,Yc,Yd,Ye,Yf]
  refine yk 3 (.pointer (some ⟨p,0,none⟩)) rfl (fun w' hSw=>by have hq:=hSw;have hd:=hq.1;go_simp) gH ?_
  refine yg 4 (.pointer (some ⟨ga,3,none⟩)) rfl gH ?_
  refine yk 5 (.int .i64 nn) rfl (fun w' hSw=>by have hq:=hSw;have hd:=hq.2;go_simp) gH ?_
  simp only[Act.put,Ya,Yb,Yc,Yd,Ye,Yf]
  refine yS 6 10 (by kernel_rfl) rfl rfl (fun K1 hK1=>?_) (fun K1 hK1=>?_)
  · skip
    try simp only[Act.put,Ya,Yb,Yc,Yd,Ye,Yf]
    go_simp
    refine Calls.mono (HCu.out _ _ HDx.out) ?_
    rintro e wc1 ⟨rfl,hsx⟩
    have HDx:=yh hsx
    have eH:=HF.out _ (HDx.out.brow (gx:=m) (T:=WT) (by simp)) (HDx.out.brow (gx:=ga) (T:=AcT) (by simp))
    clear hsx
    refine hK1.out _ _ eH (fun gH=>?_)
    clear hK1 K1
    clear eH
    refine yg 7 (.tuple #[.agg CC.toArray,.int .i64 0]) rfl gH ?_
    refine yg 8 (.agg CC.toArray) rfl gH ?_
    simp only[Act.put,Ya,Yb,Yc,Yd,Ye,Yf]
    refine yg 9 (.int .i64 0) rfl gH ?_
    refine yR 10 (by kernel_rfl) rfl (fun K1 hK1=>?_)
    try simp only[Act.put,Ya,Yb,Yc,Yd,Ye,Yf]
    go_simp
    obtain⟨gb3,gb3e⟩ :∃gb3,gb3=wc1.heap.size:=⟨_,rfl⟩
    have HFr:=yh HDx.out.fresh
    have HDx:=yh (HDx.out.alloc CtT ZT)
    have eH:=HF.out _ (HDx.out.brow (gx:=m) (T:=WT) (by simp)) (HDx.out.brow (gx:=ga) (T:=AcT) (by simp))
    generalize wc1.alloc (.cells ZT.toArray CtT)=wa2 at *
    rw[←gb3e]at HDx HFr ⊢
    refine hK1.out _ _ eH (fun gH=>?_)
    clear hK1 K1
    clear eH gb3e
    refine yR 11 (by kernel_rfl) rfl (fun K1 hK1=>?_)
    try simp only[Act.put,Ya,Yb,Yc,Yd,Ye,Yf]
    rw[if_pos (by rfl)]
    refine yar CtT (.tmp 14) (.tmp 167) rfl gb3 0 CC _ _ rfl rfl (HDx.out.brow (gx:=gb3) (T:=CtT) (X:=ZT) List.mem_cons_self) (by have:=HZ4.out;have:=HC4.out;omega) (by rw[yba,HC4.out]) HC1.out ?_
    intro ws4 hrS hgS
    rw[yad (HC4.out.trans HZ4.out.symm)]at hrS
    have HDx:=yh (HDx.out.write hgS hrS HFr.out)
    have eH:=HF.out _ (HDx.out.brow (gx:=m) (T:=WT) (by simp)) (HDx.out.brow (gx:=ga) (T:=AcT) (by simp))
    clear hrS hgS
    refine hK1.out _ _ eH (fun gH=>?_)
    clear hK1 K1
    clear eH
    refine yg 12 (.int .i64 0) rfl gH ?_
    refine wpAnyH_done (by kernel_rfl) ?_ _
    clear gH
    go_wp2_with fail
    go_meet
    case rel=>exact⟨_,rfl,rfl,HDx.out⟩
  · skip
    try simp only[Act.put,Ya,Yb,Yc,Yd,Ye,Yf]
    go_simp
    obtain⟨gb6,gb6e⟩ :∃gb6,gb6=wq.heap.size:=⟨_,rfl⟩
    have HFr:=yh HDx.out.fresh
    have HDx:=yh (HDx.out.alloc CtT ZT)
    have eH:=HF.out _ (HDx.out.brow (gx:=m) (T:=WT) (by simp)) (HDx.out.brow (gx:=ga) (T:=AcT) (by simp))
    generalize wq.alloc (.cells ZT.toArray CtT)=wa5 at *
    rw[←gb6e]at HDx HFr ⊢
    refine hK1.out _ _ eH (fun gH=>?_)
    clear hK1 K1
    clear eH gb6e
    refine yR 6 (by kernel_rfl) rfl (fun K1 hK1=>?_)
    try simp only[Act.put,Ya,Yb,Yc,Yd,Ye,Yf]
    go_simp
    refine Calls.mono (HCu.out _ _ HDx.out) ?_
    rintro e wc7 ⟨rfl,hsx⟩
    have HDx:=yh hsx
    have eH:=HF.out _ (HDx.out.brow (gx:=m) (T:=WT) (by simp)) (HDx.out.brow (gx:=ga) (T:=AcT) (by simp))
    clear hsx
    refine hK1.out _ _ eH (fun gH=>?_)
    clear hK1 K1
    clear eH
    refine yg 7 (.tuple #[.agg CC.toArray,.int .i64 0]) rfl gH ?_
    refine yg 8 (.agg CC.toArray) rfl gH ?_
    simp only[Act.put,Ya,Yb,Yc,Yd,Ye,Yf]
    refine yg 9 (.int .i64 0) rfl gH ?_
    refine yR 11 (by kernel_rfl) rfl (fun K1 hK1=>?_)
    try simp only[Act.put,Ya,Yb,Yc,Yd,Ye,Yf]
    rw[if_pos (by rfl)]
    refine yar CtT (.tmp 14) (.tmp 167) rfl gb6 0 CC _ _ rfl rfl (HDx.out.brow (gx:=gb6) (T:=CtT) (X:=ZT) List.mem_cons_self) (by have:=HZ4.out;have:=HC4.out;omega) (by rw[yba,HC4.out]) HC1.out ?_
    intro ws8 hrS hgS
    rw[yad (HC4.out.trans HZ4.out.symm)]at hrS
    have HDx:=yh (HDx.out.write hgS hrS HFr.out)
    have eH:=HF.out _ (HDx.out.brow (gx:=m) (T:=WT) (by simp)) (HDx.out.brow (gx:=ga) (T:=AcT) (by simp))
    clear hrS hgS
    refine hK1.out _ _ eH (fun gH=>?_)
    clear hK1 K1
    clear eH
    refine yg 12 (.int .i64 0) rfl gH ?_
    refine wpAnyH_done (by kernel_rfl) ?_ _
    clear gH
    go_wp2_with fail
    go_meet
    case rel=>exact⟨_,rfl,rfl,HDx.out⟩
 case rest=>
  obtain⟨g14,rfl,rfl,hd⟩:=hcut
  have HDy:=yh hd
  have HLe:=yh (fun (W':World) (hs:St w0 W' p g l' r' j' rs (cs ++ [CR]) rel false ((g14,CtT,CC)::(ga,AcT,ac)::(m,WT,(WS g p (.slice AL n cL) (.slice AC nc cC) rel sc false))::(xr++yr)))=>HLe.out W' _ hs (fun x hx=>List.mem_cons_of_mem _ (List.mem_cons_of_mem _ hx)))
  have HCw:=yh (fun (W':World) (hs:St w0 W' p g l' r' j' rs (cs ++ [CR]) rel false ((g14,CtT,CC)::(ga,AcT,ac)::(m,WT,(WS g p (.slice AL n cL) (.slice AC nc cC) rel sc false))::(xr++yr)))=>HCw.out W' _ hs (fun x hx=>List.mem_cons_of_mem _ (List.mem_cons_of_mem _ hx)))
  have HSi:=yh (fun (W':World) (hs:St w0 W' p g l' r' j' rs (cs ++ [CR]) rel false ((g14,CtT,CC)::(ga,AcT,ac)::(m,WT,(WS g p (.slice AL n cL) (.slice AC nc cC) rel sc false))::(xr++yr)))=>HSi.out W' _ hs (fun x hx=>List.mem_cons_of_mem _ (List.mem_cons_of_mem _ hx)))
  obtain⟨n0,n1,n2,n3,n6⟩:=ycd (HDy.out.brow (gx:=m) (T:=WT) (X:=(WS g p (.slice AL n cL) (.slice AC nc cC) rel sc false)) (by simp))
  obtain⟨a2,a3⟩:=HAc.out _ _ (HDy.out.brow (gx:=ga) (T:=AcT) (X:=ac) (by simp))
  clear hd HA a0 HCu
  go_wp2_with fail
  have HDy:=yh (HDy.out.below (Below.refl _ _).drew)
  refine wp_region_held_drew (S:=fun w'=>w'.cell? ⟨m,1,none⟩=some (.pointer (some ⟨p,0,none⟩))∧w'.cell? ⟨ga,3,none⟩=some (.int .i64 nn)) (by kernel_rfl) (HF.out _ (HDy.out.brow (gx:=m) (T:=WT) (X:=(WS g p (.slice AL n cL) (.slice AC nc cC) rel sc false)) (by simp)) (HDy.out.brow (gx:=ga) (T:=AcT) (X:=ac) (by simp))) (fun gH=>?_)
  generalize wc.drew=wq at *
  refine yg 0 (.pointer (some ⟨ga,3,none⟩)) rfl gH ?_
  simp only[Act.put,Ya,Yb,Yc,Yd,Ye,Yf]
  refine yk 1 (.int .i64 nn) rfl (fun w' hSw=>by have hq:=hSw;have hd:=hq.2;go_simp) gH ?_
  refine yg 2 (.pointer (some ⟨m,0,none⟩)) rfl gH ?_
  refine yR 3 (by kernel_rfl) rfl (fun K1 hK1=>?_)
  try simp only[Act.put,Ya,Yb,Yc,Yd,Ye,Yf]
  go_simp
  refine Calls.mono (HLe.out _ HDy.out) ?_
  rintro e wl1 ⟨rfl,hbx⟩
  have HDy:=yh (HDy.out.below hbx)
  have eH:=HF.out _ (HDy.out.brow (gx:=m) (T:=WT) (X:=(WS g p (.slice AL n cL) (.slice AC nc cC) rel sc false)) (by simp)) (HDy.out.brow (gx:=ga) (T:=AcT) (X:=ac) (by simp))
  clear hbx
  refine hK1.out _ _ eH (fun gH=>?_)
  clear hK1 K1
  clear eH
  refine yg 4 (.bool false) rfl gH ?_
  refine yg 5 (.bool false) rfl gH ?_
  simp only[Act.put,Ya,Yb,Yc,Yd,Ye,Yf]
  refine wpAnyH_done (by kernel_rfl) ?_ _
  clear gH n0 n1 n2 n3 n6 a2 a3
  obtain⟨n0,n1,n2,n3,n6⟩:=ycd (HDy.out.brow (gx:=m) (T:=WT) (X:=(WS g p (.slice AL n cL) (.slice AC nc cC) rel sc false)) (by simp))
  obtain⟨a2,a3⟩:=HAc.out _ _ (HDy.out.brow (gx:=ga) (T:=AcT) (X:=ac) (by simp))
  go_wp2_with fail
  have HDy:=yh (HDy.out.below (Below.refl _ _).drew)
  refine wp_region_held_drew (S:=fun w'=>w'.rangeAt g14 0 CC∧w'.cell? ⟨ga,3,none⟩=some (.int .i64 nn)) (by kernel_rfl) ((And.intro (yah (HDy.out.brow (gx:=g14) (T:=CtT) (X:=CC) (by simp))) (HAc.out _ _ (HDy.out.brow (gx:=ga) (T:=AcT) (X:=ac) (by simp))).2)) (fun gH=>?_)
  generalize wl1.drew=wu at *
  refine' yl 0 _ rfl (yieldsIf_load_mid (by rfl) _ _ rfl g14 0 rfl CC _ (fun w' hSw=>hSw.1) Tryz.underlying52 rfl (by rw[yba,HC4.out])) gH ?_
  refine yg 1 (.pointer (some ⟨m,0,none⟩)) rfl gH ?_
  refine yg 2 (.pointer (some ⟨ga,3,none⟩)) rfl gH ?_
  simp only[Act.put,Ya,Yb,Yc,Yd,Ye,Yf]
  refine yk 3 (.int .i64 nn) rfl (fun w' hSw=>by have hq:=hSw;have hd:=hq.2;go_simp) gH ?_
  refine yR 4 (by kernel_rfl) rfl (fun K1 hK1=>?_)
  try simp only[Act.put,Ya,Yb,Yc,Yd,Ye,Yf]
  go_simp
  refine Calls.mono (HCw.out _ HDy.out) ?_
  rintro e wk1 ⟨rfl,hbx⟩
  have HDy:=yh (HDy.out.below hbx)
  have eH:=(And.intro (yah (HDy.out.brow (gx:=g14) (T:=CtT) (X:=CC) (by simp))) (HAc.out _ _ (HDy.out.brow (gx:=ga) (T:=AcT) (X:=ac) (by simp))).2)
  clear hbx
  refine hK1.out _ _ eH (fun gH=>?_)
  clear hK1 K1
  clear eH
  refine yk 5 (.bool false) rfl (fun w' hSw=>by have hq:=hSw;(have hcc:=HCC.out;unfold Ct.cells at hcc;subst hcc);go_simp) gH ?_
  refine wpAnyH_done (by kernel_rfl) ?_ _
  clear gH n0 n1 n2 n3 n6 a2 a3
  obtain⟨n0,n1,n2,n3,n6⟩:=ycd (HDy.out.brow (gx:=m) (T:=WT) (X:=(WS g p (.slice AL n cL) (.slice AC nc cC) rel sc false)) (by simp))
  obtain⟨a2,a3⟩:=HAc.out _ _ (HDy.out.brow (gx:=ga) (T:=AcT) (X:=ac) (by simp))
  go_wp2_with fail
  have HDy:=yh (HDy.out.below (Below.refl _ _).drew)
  refine wp_region_held_drew (S:=fun w'=>w'.cell? ⟨ga,3,none⟩=some (.int .i64 nn)) (by kernel_rfl) ((HAc.out _ _ (HDy.out.brow (gx:=ga) (T:=AcT) (X:=ac) (by simp))).2) (fun gH=>?_)
  generalize wk1.drew=wv at *
  refine yg 0 (.pointer (some ⟨m,0,none⟩)) rfl gH ?_
  simp only[Act.put,Ya,Yb,Yc,Yd,Ye,Yf]
  refine yg 1 (.pointer (some ⟨m,0,none⟩)) rfl gH ?_
  refine yg 2 (.pointer (some ⟨m,0,none⟩)) rfl gH ?_
  refine yg 3 (.pointer (some ⟨m,3,none⟩)) rfl gH ?_
  simp only[Act.put,Ya,Yb,Yc,Yd,Ye,Yf]
  refine yg 5 (.pointer (some ⟨m,0,none⟩)) rfl gH ?_
  refine yg 6 (.pointer (some ⟨ga,3,none⟩)) rfl gH ?_
  refine yk 7 (.int .i64 nn) rfl (fun w' hSw=>by have hq:=hSw;have hd:=hq;go_simp) gH ?_
  simp only[Act.put,Ya,Yb,Yc,Yd,Ye,Yf]
  refine yS 4 8 (by kernel_rfl) rfl rfl (fun K1 hK1=>?_) (fun K1 hK1=>?_)
  · skip
    try simp only[Act.put,Ya,Yb,Yc,Yd,Ye,Yf]
    rw[if_pos (by rfl)]
    have hcx:=(ycd (HDy.out.brow (gx:=m) (T:=WT) (X:=(WS g p (.slice AL n cL) (.slice AC nc cC) rel sc false)) (by simp))).2.2.2.1
    go_simp
    refine hK1.out _ _ (gH) (fun gH=>?_)
    clear hK1 K1
    clear hcx
    refine yR 8 (by kernel_rfl) rfl (fun K1 hK1=>?_)
    try simp only[Act.put,Ya,Yb,Yc,Yd,Ye,Yf]
    go_simp
    refine Calls.mono (HCw.out _ HDy.out) ?_
    rintro e wk1 ⟨rfl,hbx⟩
    have HDy:=yh (HDy.out.below hbx)
    have eH:=(HAc.out _ _ (HDy.out.brow (gx:=ga) (T:=AcT) (X:=ac) (by simp))).2
    clear hbx
    refine hK1.out _ _ eH (fun gH=>?_)
    clear hK1 K1
    clear eH
    refine yR 9 (by kernel_rfl) rfl (fun K1 hK1=>?_)
    try simp only[Act.put,Ya,Yb,Yc,Yd,Ye,Yf]
    rw[if_pos (by rfl)]
    refine ydd (.tmp 207) rfl CC HC4.out rfl ?_
    have hnr:=Row.new wk1 CtT CC
    have HDy:=yh (HDy.out.below ((Below.refl wk1.heap.size wk1).alloc (Nat.le_refl _) (.cells CC.toArray CtT)))
    have eH:=(HAc.out _ _ (HDy.out.brow (gx:=ga) (T:=AcT) (X:=ac) (by simp))).2
    generalize wk1.alloc (.cells CC.toArray CtT)=wb2 at *
    generalize wk1.heap.size=gb at *
    refine hK1.out _ _ eH (fun gH=>?_)
    clear hK1 K1
    clear eH
    refine yR 10 (by kernel_rfl) rfl (fun K1 hK1=>?_)
    try simp only[Act.put,Ya,Yb,Yc,Yd,Ye,Yf]
    obtain⟨q1,q2,q3⟩:=HSi.out _ HDy.out
    rw[if_pos (by rfl)]
    refine ygc (.tmp 203) (.tmp 208) rfl CR gb (by rw[HCC.out];exact hnr) w0.heap.size (.slice AC nc cC) cs q2 HDy.out.low.size HCl.out rfl rfl ?_
    intro u wi3 ho hcg hk
    obtain⟨A3,c3,hue,_,_⟩:=ho.form
    subst hue
    obtain⟨k9,hk9⟩:=yx ((cs ++ [CR]).length)
    rw[hk9]at ho hk ⊢
    clear hk9
    have HQ1:=yh q1
    have HQ2:=yh q2
    have HQ3:=yh q3
    have HO:=yh ho
    have HCg:=yh hcg
    have HKk:=yh hk
    have HM5:=yh (hcg.row q3 (fun e=>q2.ne_block q3 (by decide) e))
    have HG5:=yh (hcg.row (HDy.out.brow (gx:=ga) (T:=AcT) (X:=ac) (by simp)) (fun e=>q2.ne_block (HDy.out.brow (gx:=ga) (T:=AcT) (X:=ac) (by simp)) (by decide) e))
    clear q1 q2 q3 ho hcg hk
    have eH:=(HAc.out _ _ HG5.out).2
    refine hK1.out _ _ eH (fun gH=>?_)
    clear hK1 K1
    clear eH
    refine yg 11 (.pointer (some ⟨m,0,none⟩)) rfl gH ?_
    refine yg 12 (.pointer (some ⟨m,3,none⟩)) rfl gH ?_
    simp only[Act.put,Ya,Yb,Yc,Yd,Ye,Yf]
    refine yR 13 (by kernel_rfl) rfl (fun K1 hK1=>?_)
    try simp only[Act.put,Ya,Yb,Yc,Yd,Ye,Yf]
    rw[if_pos (by rfl)]
    refine ybc 30 (.tmp 211) (.tmp 209) rfl m 3 WT (WS g p (.slice AL n cL) (.slice AC nc cC) rel sc false) A3 k9 c3 rfl rfl HM5.out (by simp[WS]) (by kernel_rfl) ?_
    intro wt4 hr6 hg6
    have hgm:=ybz HG5.out HM5.out (by decide)
    have HG6:=yh (HG5.out.kept hg6 (fun e=>hgm (Option.some.inj e)))
    have hcm:Chg (fun k=>k=m) _ wt4:=Chg.yat hg6 (fun k hk=>by cases hk;exact .inl rfl)
    have hct:=Chg.trans (S:=fun k=>(Value.slice AC nc cC).ownBlock=some k∨k=m) (HCg.out.mono (fun k hk=>.inl hk)) hcm (fun k hk=>.inl (.inr hk))
    have HSt:=yh (Sit.put (L':=rs) (C':=cs ++ [CR]) (safe':=rel) (sc':=sc) (bb':=false) (v':=.slice AL n cL) (u':=.slice A3 k9 c3) (HDy.out.less (rows':=(m,WT,(WS g p (.slice AL n cL) (.slice AC nc cC) rel sc false))::(xr++yr)) (fun x hx=>List.mem_cons_of_mem _ (List.mem_cons_of_mem _ hx))) H1.out H2.out (hct.mono (fun k hk=>.inr hk)) (HQ1.out.chg hct (fun k hk e=>e.elim (fun e=>HQ1.out.ne_own HQ2.out (by decide) k hk e) (fun e=>HQ1.out.ne_block HQ3.out (by decide) (e ▸ hk)))) (HO.out.chg hcm (fun k hk e=>HO.out.ne_block HM5.out (by decide) (e ▸ hk))) (fun k hk=>.inl hk) HKk.out hr6)
    have HM6:=yh hr6
    have eH:=(HAc.out _ _ HG6.out).2
    clear hr6 hg6 hgm hcm hct
    refine hK1.out _ _ eH (fun gH=>?_)
    clear hK1 K1
    clear eH
    refine wpAnyH_done (by kernel_rfl) ?_ _
    clear gH n0 n1 n2 n3 n6 a2 a3
    have n6:=HM6.out.cell 6 (by simp[WS])
    have n6:wt4.cell? ⟨m,6,none⟩=some (.bool false):=n6
    have a2:=(HAc.out _ _ HG6.out).1
    go_wp2_with fail
    go_ret
    exact⟨rfl,HSt.out⟩
  · skip
    try simp only[Act.put,Ya,Yb,Yc,Yd,Ye,Yf]
    go_simp
    refine Calls.mono (HCw.out _ HDy.out) ?_
    rintro e wk5 ⟨rfl,hbx⟩
    have HDy:=yh (HDy.out.below hbx)
    have eH:=(HAc.out _ _ (HDy.out.brow (gx:=ga) (T:=AcT) (X:=ac) (by simp))).2
    clear hbx
    refine hK1.out _ _ eH (fun gH=>?_)
    clear hK1 K1
    clear eH
    refine yS 4 9 (by kernel_rfl) rfl rfl (fun K1 hK1=>?_) (fun K1 hK1=>?_)
    · skip
      try simp only[Act.put,Ya,Yb,Yc,Yd,Ye,Yf]
      rw[if_pos (by rfl)]
      have hcx:=(ycd (HDy.out.brow (gx:=m) (T:=WT) (X:=(WS g p (.slice AL n cL) (.slice AC nc cC) rel sc false)) (by simp))).2.2.2.1
      go_simp
      refine hK1.out _ _ (gH) (fun gH=>?_)
      clear hK1 K1
      clear hcx
      refine yR 9 (by kernel_rfl) rfl (fun K1 hK1=>?_)
      try simp only[Act.put,Ya,Yb,Yc,Yd,Ye,Yf]
      rw[if_pos (by rfl)]
      refine ydd (.tmp 207) rfl CC HC4.out rfl ?_
      have hnr:=Row.new wk5 CtT CC
      have HDy:=yh (HDy.out.below ((Below.refl wk5.heap.size wk5).alloc (Nat.le_refl _) (.cells CC.toArray CtT)))
      have eH:=(HAc.out _ _ (HDy.out.brow (gx:=ga) (T:=AcT) (X:=ac) (by simp))).2
      generalize wk5.alloc (.cells CC.toArray CtT)=wb6 at *
      generalize wk5.heap.size=gb at *
      refine hK1.out _ _ eH (fun gH=>?_)
      clear hK1 K1
      clear eH
      refine yR 10 (by kernel_rfl) rfl (fun K1 hK1=>?_)
      try simp only[Act.put,Ya,Yb,Yc,Yd,Ye,Yf]
      obtain⟨q1,q2,q3⟩:=HSi.out _ HDy.out
      rw[if_pos (by rfl)]
      refine ygc (.tmp 203) (.tmp 208) rfl CR gb (by rw[HCC.out];exact hnr) w0.heap.size (.slice AC nc cC) cs q2 HDy.out.low.size HCl.out rfl rfl ?_
      intro u wi7 ho hcg hk
      obtain⟨A3,c3,hue,_,_⟩:=ho.form
      subst hue
      obtain⟨k9,hk9⟩:=yx ((cs ++ [CR]).length)
      rw[hk9]at ho hk ⊢
      clear hk9
      have HQ1:=yh q1
      have HQ2:=yh q2
      have HQ3:=yh q3
      have HO:=yh ho
      have HCg:=yh hcg
      have HKk:=yh hk
      have HM5:=yh (hcg.row q3 (fun e=>q2.ne_block q3 (by decide) e))
      have HG5:=yh (hcg.row (HDy.out.brow (gx:=ga) (T:=AcT) (X:=ac) (by simp)) (fun e=>q2.ne_block (HDy.out.brow (gx:=ga) (T:=AcT) (X:=ac) (by simp)) (by decide) e))
      clear q1 q2 q3 ho hcg hk
      have eH:=(HAc.out _ _ HG5.out).2
      refine hK1.out _ _ eH (fun gH=>?_)
      clear hK1 K1
      clear eH
      refine yg 11 (.pointer (some ⟨m,0,none⟩)) rfl gH ?_
      refine yg 12 (.pointer (some ⟨m,3,none⟩)) rfl gH ?_
      simp only[Act.put,Ya,Yb,Yc,Yd,Ye,Yf]
      refine yR 13 (by kernel_rfl) rfl (fun K1 hK1=>?_)
      try simp only[Act.put,Ya,Yb,Yc,Yd,Ye,Yf]
      rw[if_pos (by rfl)]
      refine ybc 30 (.tmp 211) (.tmp 209) rfl m 3 WT (WS g p (.slice AL n cL) (.slice AC nc cC) rel sc false) A3 k9 c3 rfl rfl HM5.out (by simp[WS]) (by kernel_rfl) ?_
      intro wt8 hr6 hg6
      have hgm:=ybz HG5.out HM5.out (by decide)
      have HG6:=yh (HG5.out.kept hg6 (fun e=>hgm (Option.some.inj e)))
      have hcm:Chg (fun k=>k=m) _ wt8:=Chg.yat hg6 (fun k hk=>by cases hk;exact .inl rfl)
      have hct:=Chg.trans (S:=fun k=>(Value.slice AC nc cC).ownBlock=some k∨k=m) (HCg.out.mono (fun k hk=>.inl hk)) hcm (fun k hk=>.inl (.inr hk))
      have HSt:=yh (Sit.put (L':=rs) (C':=cs ++ [CR]) (safe':=rel) (sc':=sc) (bb':=false) (v':=.slice AL n cL) (u':=.slice A3 k9 c3) (HDy.out.less (rows':=(m,WT,(WS g p (.slice AL n cL) (.slice AC nc cC) rel sc false))::(xr++yr)) (fun x hx=>List.mem_cons_of_mem _ (List.mem_cons_of_mem _ hx))) H1.out H2.out (hct.mono (fun k hk=>.inr hk)) (HQ1.out.chg hct (fun k hk e=>e.elim (fun e=>HQ1.out.ne_own HQ2.out (by decide) k hk e) (fun e=>HQ1.out.ne_block HQ3.out (by decide) (e ▸ hk)))) (HO.out.chg hcm (fun k hk e=>HO.out.ne_block HM5.out (by decide) (e ▸ hk))) (fun k hk=>.inl hk) HKk.out hr6)
      have HM6:=yh hr6
      have eH:=(HAc.out _ _ HG6.out).2
      clear hr6 hg6 hgm hcm hct
      refine hK1.out _ _ eH (fun gH=>?_)
      clear hK1 K1
      clear eH
      refine wpAnyH_done (by kernel_rfl) ?_ _
      clear gH n0 n1 n2 n3 n6 a2 a3
      have n6:=HM6.out.cell 6 (by simp[WS])
      have n6:wt8.cell? ⟨m,6,none⟩=some (.bool false):=n6
      have a2:=(HAc.out _ _ HG6.out).1
      go_wp2_with fail
      go_ret
      exact⟨rfl,HSt.out⟩
    · skip
      try simp only[Act.put,Ya,Yb,Yc,Yd,Ye,Yf]
      rw[if_pos (by rfl)]
      refine ydd (.tmp 207) rfl CC HC4.out rfl ?_
      have hnr:=Row.new wk5 CtT CC
      have HDy:=yh (HDy.out.below ((Below.refl wk5.heap.size wk5).alloc (Nat.le_refl _) (.cells CC.toArray CtT)))
      have eH:=(HAc.out _ _ (HDy.out.brow (gx:=ga) (T:=AcT) (X:=ac) (by simp))).2
      generalize wk5.alloc (.cells CC.toArray CtT)=wb9 at *
      generalize wk5.heap.size=gb at *
      refine hK1.out _ _ eH (fun gH=>?_)
      clear hK1 K1
      clear eH
      refine yR 4 (by kernel_rfl) rfl (fun K1 hK1=>?_)
      try simp only[Act.put,Ya,Yb,Yc,Yd,Ye,Yf]
      rw[if_pos (by rfl)]
      have hcx:=(ycd (HDy.out.brow (gx:=m) (T:=WT) (X:=(WS g p (.slice AL n cL) (.slice AC nc cC) rel sc false)) (by simp))).2.2.2.1
      go_simp
      refine hK1.out _ _ (gH) (fun gH=>?_)
      clear hK1 K1
      clear hcx
      refine yR 10 (by kernel_rfl) rfl (fun K1 hK1=>?_)
      try simp only[Act.put,Ya,Yb,Yc,Yd,Ye,Yf]
      obtain⟨q1,q2,q3⟩:=HSi.out _ HDy.out
      rw[if_pos (by rfl)]
      refine ygc (.tmp 203) (.tmp 208) rfl CR gb (by rw[HCC.out];exact hnr) w0.heap.size (.slice AC nc cC) cs q2 HDy.out.low.size HCl.out rfl rfl ?_
      intro u wi10 ho hcg hk
      obtain⟨A3,c3,hue,_,_⟩:=ho.form
      subst hue
      obtain⟨k9,hk9⟩:=yx ((cs ++ [CR]).length)
      rw[hk9]at ho hk ⊢
      clear hk9
      have HQ1:=yh q1
      have HQ2:=yh q2
      have HQ3:=yh q3
      have HO:=yh ho
      have HCg:=yh hcg
      have HKk:=yh hk
      have HM5:=yh (hcg.row q3 (fun e=>q2.ne_block q3 (by decide) e))
      have HG5:=yh (hcg.row (HDy.out.brow (gx:=ga) (T:=AcT) (X:=ac) (by simp)) (fun e=>q2.ne_block (HDy.out.brow (gx:=ga) (T:=AcT) (X:=ac) (by simp)) (by decide) e))
      clear q1 q2 q3 ho hcg hk
      have eH:=(HAc.out _ _ HG5.out).2
      refine hK1.out _ _ eH (fun gH=>?_)
      clear hK1 K1
      clear eH
      refine yg 11 (.pointer (some ⟨m,0,none⟩)) rfl gH ?_
      refine yg 12 (.pointer (some ⟨m,3,none⟩)) rfl gH ?_
      simp only[Act.put,Ya,Yb,Yc,Yd,Ye,Yf]
      refine yR 13 (by kernel_rfl) rfl (fun K1 hK1=>?_)
      try simp only[Act.put,Ya,Yb,Yc,Yd,Ye,Yf]
      rw[if_pos (by rfl)]
      refine ybc 30 (.tmp 211) (.tmp 209) rfl m 3 WT (WS g p (.slice AL n cL) (.slice AC nc cC) rel sc false) A3 k9 c3 rfl rfl HM5.out (by simp[WS]) (by kernel_rfl) ?_
      intro wt11 hr6 hg6
      have hgm:=ybz HG5.out HM5.out (by decide)
      have HG6:=yh (HG5.out.kept hg6 (fun e=>hgm (Option.some.inj e)))
      have hcm:Chg (fun k=>k=m) _ wt11:=Chg.yat hg6 (fun k hk=>by cases hk;exact .inl rfl)
      have hct:=Chg.trans (S:=fun k=>(Value.slice AC nc cC).ownBlock=some k∨k=m) (HCg.out.mono (fun k hk=>.inl hk)) hcm (fun k hk=>.inl (.inr hk))
      have HSt:=yh (Sit.put (L':=rs) (C':=cs ++ [CR]) (safe':=rel) (sc':=sc) (bb':=false) (v':=.slice AL n cL) (u':=.slice A3 k9 c3) (HDy.out.less (rows':=(m,WT,(WS g p (.slice AL n cL) (.slice AC nc cC) rel sc false))::(xr++yr)) (fun x hx=>List.mem_cons_of_mem _ (List.mem_cons_of_mem _ hx))) H1.out H2.out (hct.mono (fun k hk=>.inr hk)) (HQ1.out.chg hct (fun k hk e=>e.elim (fun e=>HQ1.out.ne_own HQ2.out (by decide) k hk e) (fun e=>HQ1.out.ne_block HQ3.out (by decide) (e ▸ hk)))) (HO.out.chg hcm (fun k hk e=>HO.out.ne_block HM5.out (by decide) (e ▸ hk))) (fun k hk=>.inl hk) HKk.out hr6)
      have HM6:=yh hr6
      have eH:=(HAc.out _ _ HG6.out).2
      clear hr6 hg6 hgm hcm hct
      refine hK1.out _ _ eH (fun gH=>?_)
      clear hK1 K1
      clear eH
      refine wpAnyH_done (by kernel_rfl) ?_ _
      clear gH n0 n1 n2 n3 n6 a2 a3
      have n6:=HM6.out.cell 6 (by simp[WS])
      have n6:wt11.cell? ⟨m,6,none⟩=some (.bool false):=n6
      have a2:=(HAc.out _ _ HG6.out).1
      go_wp2_with fail
      go_ret
      exact⟨rfl,HSt.out⟩
end Go.Proofs.YtalfnadejpmjnaaGreatDoor
