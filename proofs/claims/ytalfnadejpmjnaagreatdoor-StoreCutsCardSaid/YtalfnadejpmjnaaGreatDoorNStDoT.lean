/- A part. -/
import Derived.Test.YtalfnadejpmjnaaGreatDoorNStDoS
import Derived.Deep.CutBlock
import Derived.Deep.DeepCutAuto
import Derived.Deep.CutRange
set_option linter.unusedVariables false
set_option linter.unusedSimpArgs false
set_option maxRecDepth 100000
set_option maxHeartbeats 25600000
namespace Go.Proofs.YtalfnadejpmjnaaGreatDoor
open Go.RowKit
theorem St.lists {w0 W:World}{p g:Nat}{l:List Jn.Fl}{r:Int}{j:Jn.Jr.J}{rs:List Rp}{cs:List Ct}{rel:Int}{brk:Bool}{rows:Rws}(h:St w0 W p g l r j rs cs rel brk rows):(∀b∈rs,b.Fits)∧rs.length≤1000000:=by
 obtain⟨q,B,Z,x1,x2,x3,h⟩:=h
 exact⟨h.lg.fits,by have:=h.lg.len;omega⟩
theorem ysa {w0 W:World}{p g m:Nat}{l l':List Jn.Fl}{r r':Int}{j j':Jn.Jr.J}{rs:List Rp}{cs:List Ct}{rel:Int}{brk brk':Bool}{sc:Int}(hsit:Sit w0 W p g m l r j rs cs rel brk rel sc brk rs cs)(hc:CtsOk cs)(nn:Int)(ac:List Value)(hac :∀(W':World) b,Row W' b AcT ac→W'.cell? ⟨b,0,none⟩=some (.int .i64 2)∧W'.cell? ⟨b,3,none⟩=some (.int .i64 nn))(CR:Ct)(f:Int)
 (hcu :∀(W':World) rows,St w0 W' p g l r j rs cs rel brk rows→Calls Tryz.prog 31 #[.pointer (some ⟨p,0,none⟩),.int .i64 nn] W' fun e w'=>e=.returned (.tuple #[.agg CR.cells.toArray,.int .i64 f])∧St w0 w' p g l' r' j' rs cs rel brk' rows)
 (hres:(brk=true∧f=8∧brk'=true)∨(brk=false∧nn<1∧f=2∧brk'=false)∨(brk=false∧¬nn<1∧(rs.length:Int)-ctSum cs cs.length<nn∧f=4∧brk'=false)∨(brk=false∧¬nn<1∧¬(rs.length:Int)-ctSum cs cs.length<nn∧r=0∧f=8∧brk'=true)):
 Calls Tryz.prog 12 #[.pointer (some ⟨m,0,none⟩),.agg ac.toArray] W fun e w'=>e=.returned (.bool true)∧Sit w0 w' p g m l' r' j' rs cs rel brk' rel sc brk' rs cs:=by
 obtain⟨v,u,xr,yr,h,h1,h2⟩:=hsit
 obtain⟨q1,q2,q3⟩:=h.sit h1 h2
 obtain⟨hfit,hlen⟩:=h.lists
 obtain⟨AL,cL,rfl,_,_⟩:=q1.form
 obtain⟨AC,cC,rfl,_,_⟩:=q2.form
 have hA:=h.alloc AcT ac
 have HLe:Hid (∀(W':World),St w0 W' p g l' r' j' rs cs rel brk' ((m,WT,WS g p (.slice AL rs.length cL) (.slice AC cs.length cC) rel sc brk)::(xr++yr))→True):=yh (fun _ _=>trivial)
 have hLe :∀(W':World) rows,St w0 W' p g l' r' j' rs cs rel brk' rows→(∀x∈(m,WT,WS g p (.slice AL rs.length cL) (.slice AC cs.length cC) rel sc brk)::(xr++yr),x∈rows)→Calls Tryz.prog 19 #[.pointer (some ⟨m,0,none⟩)] W' fun e w'=>e=.returned (.int .i64 ((rs.length:Int)-ctSum cs cs.length))∧Below W'.heap.size W' w':=fun W' rows hs hm=>by
  obtain⟨z1,z2,z3⟩:=(hs.less hm).sit h1 h2
  exact yjn z3 z1 z2 hc hfit hlen
 clear HLe
 have HAc:=yh hac
 have H1:=yh h1
 have H2:=yh h2
 have HCu:=yh hcu
 have hz:=yjb
 have HZ4:Hid (Ct.zero.cells.length=4):=yh rfl
 obtain⟨ZT,hZT⟩:=yx (Ct.zero.cells)
 rw[hZT]at hz HZ4
 have HC4:Hid (CR.cells.length=4):=yh rfl
 have HC1:=yh (Ct.one CR)
 obtain⟨CC,hCC⟩:=yx (CR.cells)
 rw[hCC]at HC4 HC1 HCu
 obtain⟨n,hn⟩:=yx (rs.length)
 obtain⟨nc,hnc⟩:=yx (cs.length)
 obtain⟨lf,hlf⟩:=yx ((rs.length:Int)-ctSum cs cs.length)
 rw[hlf]at hres hLe
 rw[hn,hnc]at hA hLe
 rw[hn]at H1
 rw[hnc]at H2
 have HLe:=yh hLe
 have HA:=yh hA
 clear hac h h1 h2 q1 q2 q3 hA hfit hlen hc hcu hLe hZT hCC hn hnc hlf
 obtain⟨dn,hdn⟩:=yx (decide (r=0))
 have HD:=yh HA.out.down
 rw[hdn]at HD
 obtain⟨b1,d1⟩:=yx (decide (nn<1))
 obtain⟨lb,d2⟩:=yx (decide (lf<nn))
 have d2':decide (nn>lf)=lb:=d2
 have hr:(brk=true∧f=8∧brk'=true)∨(brk=false∧b1=true∧f=2∧brk'=false)∨(brk=false∧b1=false∧lb=true∧f=4∧brk'=false)∨(brk=false∧b1=false∧lb=false∧dn=true∧f=8∧brk'=true):=by
  rcases hres with q|⟨q1,q2,q3⟩|⟨q1,q2,q3,q4⟩|⟨q1,q2,q3,q4,q5⟩
  · exact .inl q
  · exact .inr (.inl ⟨q1,by rw[←d1];exact decide_eq_true q2,q3⟩)
  · exact .inr (.inr (.inl ⟨q1,by rw[←d1];exact decide_eq_false q2,by rw[←d2];exact decide_eq_true q3,q4⟩))
  · exact .inr (.inr (.inr ⟨q1,by rw[←d1];exact decide_eq_false q2,by rw[←d2];exact decide_eq_false q3,by rw[←hdn];exact decide_eq_true q4,q5⟩))
 clear hres hdn
 have m0:=(ycd (HA.out.brow (gx:=m) (T:=WT) (X:=(WS g p (.slice AL n cL) (.slice AC nc cC) rel sc brk)) (by simp))).1
 have a0:=(HAc.out _ _ (HA.out.brow (gx:=W.heap.size) (T:=AcT) (X:=ac) (by simp))).1
 go_enter Tryz.func12,Tryz.ntmps12
 go_wp2_with fail
 refine HD.out.mono ?_
 rintro _ _ ⟨rfl,rfl⟩
 clear HD m0
 go_upto_region 23 with fail
 obtain⟨W1,hW1⟩:=yx (W.alloc (.cells ac.toArray AcT))
 rw[hW1]at HA a0
 simp only[hW1]
 clear hW1
 generalize W.heap.size=ga at *
 have HF:Hid (∀W':World,Row W' m WT (WS g p (.slice AL n cL) (.slice AC nc cC) rel sc brk)→Row W' ga AcT ac→W'.cell? ⟨m,1,none⟩=some (.pointer (some ⟨p,0,none⟩))∧W'.cell? ⟨ga,3,none⟩=some (.int .i64 nn)):=yh (fun W' hx hy=>⟨(ycd hx).2.1,(HAc.out _ _ hy).2⟩)
 go_cut [14,15] (fun s14 s15 wc =>∃g14,s14=.pointer (some ⟨g14,0,none⟩)∧s15=.int .i64 f∧St w0 wc p g l' r' j' rs cs rel brk' ((g14,CtT,CC)::(ga,AcT,ac)::(m,WT,(WS g p (.slice AL n cL) (.slice AC nc cC) rel sc brk))::(xr++yr)))
 case first=>
  have HDx:=yh (HA.out.below (Below.refl _ _).drew)
  clear HA a0
  go_wp2_with fail
  refine wp_region_held_drew (S:=fun w'=>w'.cell? ⟨m,1,none⟩=some (.pointer (some ⟨p,0,none⟩))∧w'.cell? ⟨ga,3,none⟩=some (.int .i64 nn)) (by kernel_rfl) (HF.out _ (HDx.out.brow (gx:=m) (T:=WT) (by simp)) (HDx.out.brow (gx:=ga) (T:=AcT) (by simp))) (fun gH=>?_)
  generalize W1.drew=wq at *
  refine yg 0 (.pointer (some ⟨m,0,none⟩)) rfl gH ?_
  refine yg 1 (.pointer (some ⟨m,0,none⟩)) rfl gH ?_
  refine yg 2 (.pointer (some ⟨m,1,none⟩)) rfl gH ?_
  simp only[Act.put,Ya,Yb,Yc,Yd,Ye,Yf]
  refine yk 3 (.pointer (some ⟨p,0,none⟩)) rfl (fun w' hSw=>by have hq:=hSw;have hd:=hq.1;go_simp) gH ?_
  refine yg 4 (.pointer (some ⟨ga,3,none⟩)) rfl gH ?_
  refine yk 5 (.int .i64 nn) rfl (fun w' hSw=>by have hq:=hSw;have hd:=hq.2;go_simp) gH ?_
  simp only[Act.put,Ya,Yb,Yc,Yd,Ye,Yf]
  refine yS 6 10 (by kernel_rfl) rfl rfl (fun K1 hK1=>?_) (fun K1 hK1=>?_)
  · skip
    try simp only[Act.put,Ya,Yb,Yc,Yd,Ye,Yf]
    go_simp
    refine Calls.mono (HCu.out _ _ HDx.out) ?_
    rintro e wc1 ⟨rfl,hsx⟩
    have HDx:=yh hsx
    have eH:=HF.out _ (HDx.out.brow (gx:=m) (T:=WT) (by simp)) (HDx.out.brow (gx:=ga) (T:=AcT) (by simp))
    clear hsx
    refine hK1.out _ _ eH (fun gH=>?_)
    clear hK1 K1
    clear eH
    refine yg 7 (.tuple #[.agg CC.toArray,.int .i64 f]) rfl gH ?_
    refine yg 8 (.agg CC.toArray) rfl gH ?_
    simp only[Act.put,Ya,Yb,Yc,Yd,Ye,Yf]
    refine yg 9 (.int .i64 f) rfl gH ?_
    refine yR 10 (by kernel_rfl) rfl (fun K1 hK1=>?_)
    try simp only[Act.put,Ya,Yb,Yc,Yd,Ye,Yf]
    go_simp
    obtain⟨gb3,gb3e⟩ :∃gb3,gb3=wc1.heap.size:=⟨_,rfl⟩
    have HFr:=yh HDx.out.fresh
    have HDx:=yh (HDx.out.alloc CtT ZT)
    have eH:=HF.out _ (HDx.out.brow (gx:=m) (T:=WT) (by simp)) (HDx.out.brow (gx:=ga) (T:=AcT) (by simp))
    generalize wc1.alloc (.cells ZT.toArray CtT)=wa2 at *
    rw[←gb3e]at HDx HFr ⊢
    refine hK1.out _ _ eH (fun gH=>?_)
    clear hK1 K1
    clear eH gb3e
    refine yR 11 (by kernel_rfl) rfl (fun K1 hK1=>?_)
    try simp only[Act.put,Ya,Yb,Yc,Yd,Ye,Yf]
    rw[if_pos (by rfl)]
    refine yar CtT (.tmp 14) (.tmp 167) rfl gb3 0 CC _ _ rfl rfl (HDx.out.brow (gx:=gb3) (T:=CtT) (X:=ZT) List.mem_cons_self) (by have:=HZ4.out;have:=HC4.out;omega) (by rw[yba,HC4.out]) HC1.out ?_
    intro ws4 hrS hgS
    rw[yad (HC4.out.trans HZ4.out.symm)]at hrS
    have HDx:=yh (HDx.out.write hgS hrS HFr.out)
    have eH:=HF.out _ (HDx.out.brow (gx:=m) (T:=WT) (by simp)) (HDx.out.brow (gx:=ga) (T:=AcT) (by simp))
    clear hrS hgS
    refine hK1.out _ _ eH (fun gH=>?_)
    clear hK1 K1
    clear eH
    refine yg 12 (.int .i64 f) rfl gH ?_
    refine wpAnyH_done (by kernel_rfl) ?_ _
    clear gH
    go_wp2_with fail
    go_meet
    case rel=>exact⟨_,rfl,rfl,HDx.out⟩
  · skip
    try simp only[Act.put,Ya,Yb,Yc,Yd,Ye,Yf]
    go_simp
    obtain⟨gb6,gb6e⟩ :∃gb6,gb6=wq.heap.size:=⟨_,rfl⟩
    have HFr:=yh HDx.out.fresh
    have HDx:=yh (HDx.out.alloc CtT ZT)
    have eH:=HF.out _ (HDx.out.brow (gx:=m) (T:=WT) (by simp)) (HDx.out.brow (gx:=ga) (T:=AcT) (by simp))
    generalize wq.alloc (.cells ZT.toArray CtT)=wa5 at *
    rw[←gb6e]at HDx HFr ⊢
    refine hK1.out _ _ eH (fun gH=>?_)
    clear hK1 K1
    clear eH gb6e
    refine yR 6 (by kernel_rfl) rfl (fun K1 hK1=>?_)
    try simp only[Act.put,Ya,Yb,Yc,Yd,Ye,Yf]
    go_simp
    refine Calls.mono (HCu.out _ _ HDx.out) ?_
    rintro e wc7 ⟨rfl,hsx⟩
    have HDx:=yh hsx
    have eH:=HF.out _ (HDx.out.brow (gx:=m) (T:=WT) (by simp)) (HDx.out.brow (gx:=ga) (T:=AcT) (by simp))
    clear hsx
    refine hK1.out _ _ eH (fun gH=>?_)
    clear hK1 K1
    clear eH
    refine yg 7 (.tuple #[.agg CC.toArray,.int .i64 f]) rfl gH ?_
    refine yg 8 (.agg CC.toArray) rfl gH ?_
    simp only[Act.put,Ya,Yb,Yc,Yd,Ye,Yf]
    refine yg 9 (.int .i64 f) rfl gH ?_
    refine yR 11 (by kernel_rfl) rfl (fun K1 hK1=>?_)
    try simp only[Act.put,Ya,Yb,Yc,Yd,Ye,Yf]
    rw[if_pos (by rfl)]
    refine yar CtT (.tmp 14) (.tmp 167) rfl gb6 0 CC _ _ rfl rfl (HDx.out.brow (gx:=gb6) (T:=CtT) (X:=ZT) List.mem_cons_self) (by have:=HZ4.out;have:=HC4.out;omega) (by rw[yba,HC4.out]) HC1.out ?_
    intro ws8 hrS hgS
    rw[yad (HC4.out.trans HZ4.out.symm)]at hrS
    have HDx:=yh (HDx.out.write hgS hrS HFr.out)
    have eH:=HF.out _ (HDx.out.brow (gx:=m) (T:=WT) (by simp)) (HDx.out.brow (gx:=ga) (T:=AcT) (by simp))
    clear hrS hgS
    refine hK1.out _ _ eH (fun gH=>?_)
    clear hK1 K1
    clear eH
    refine yg 12 (.int .i64 f) rfl gH ?_
    refine wpAnyH_done (by kernel_rfl) ?_ _
    clear gH
    go_wp2_with fail
    go_meet
    case rel=>exact⟨_,rfl,rfl,HDx.out⟩
 case rest=>
  obtain⟨g14,rfl,rfl,hd⟩:=hcut
  have HDy:=yh (hd.less (rows':=(ga,AcT,ac)::(m,WT,(WS g p (.slice AL n cL) (.slice AC nc cC) rel sc brk))::(xr++yr)) (fun x hx=>List.mem_cons_of_mem _ hx))
  have HLe:=yh (fun (W':World) (hs:St w0 W' p g l' r' j' rs cs rel brk' ((ga,AcT,ac)::(m,WT,(WS g p (.slice AL n cL) (.slice AC nc cC) rel sc brk))::(xr++yr)))=>HLe.out W' _ hs (fun x hx=>List.mem_cons_of_mem _ hx))
  obtain⟨n0,n1,n2,n3,n6⟩:=ycd (HDy.out.brow (gx:=m) (T:=WT) (X:=(WS g p (.slice AL n cL) (.slice AC nc cC) rel sc brk)) (by simp))
  obtain⟨a2,a3⟩:=HAc.out _ _ (HDy.out.brow (gx:=ga) (T:=AcT) (X:=ac) (by simp))
  clear hd HA a0 HCu
  rcases hr with⟨rfl,rfl,rfl⟩|⟨rfl,rfl,rfl,rfl⟩|⟨rfl,rfl,rfl,rfl,rfl⟩|⟨rfl,rfl,rfl,rfl,rfl,rfl⟩
  · cases b1
    · go_wp2_with fail
      have HDy:=yh (HDy.out.below (Below.refl _ _).drew)
      refine wp_region_held_drew (S:=fun w'=>w'.cell? ⟨m,1,none⟩=some (.pointer (some ⟨p,0,none⟩))∧w'.cell? ⟨ga,3,none⟩=some (.int .i64 nn)) (by kernel_rfl) (HF.out _ (HDy.out.brow (gx:=m) (T:=WT) (by simp)) (HDy.out.brow (gx:=ga) (T:=AcT) (by simp))) (fun gH=>?_)
      generalize wc.drew=wq at *
      refine yg 0 (.pointer (some ⟨ga,3,none⟩)) rfl gH ?_
      simp only[Act.put,Ya,Yb,Yc,Yd,Ye,Yf]
      refine yk 1 (.int .i64 nn) rfl (fun w' hSw=>by have hq:=hSw;have hd:=hq.2;go_simp) gH ?_
      refine yg 2 (.pointer (some ⟨m,0,none⟩)) rfl gH ?_
      refine yR 3 (by kernel_rfl) rfl (fun K1 hK1=>?_)
      try simp only[Act.put,Ya,Yb,Yc,Yd,Ye,Yf]
      go_simp
      refine Calls.mono (HLe.out _ HDy.out) ?_
      rintro e wl1 ⟨rfl,hbx⟩
      have HDy:=yh (HDy.out.below hbx)
      have eH:=HF.out _ (HDy.out.brow (gx:=m) (T:=WT) (by simp)) (HDy.out.brow (gx:=ga) (T:=AcT) (by simp))
      clear hbx
      refine hK1.out _ _ eH (fun gH=>?_)
      clear hK1 K1
      clear eH
      refine yg 4 (.bool lb) rfl gH ?_
      refine yg 5 (.bool lb) rfl gH ?_
      simp only[Act.put,Ya,Yb,Yc,Yd,Ye,Yf]
      refine wpAnyH_done (by kernel_rfl) ?_ _
      clear gH n0 n1 n2 n3 n6 a2 a3
      obtain⟨n0,n1,n2,n3,n6⟩:=ycd (HDy.out.brow (gx:=m) (T:=WT) (X:=(WS g p (.slice AL n cL) (.slice AC nc cC) rel sc true)) (by simp))
      obtain⟨a2,a3⟩:=HAc.out _ _ (HDy.out.brow (gx:=ga) (T:=AcT) (X:=ac) (by simp))
      cases lb
      · cases dn
        all_goals
         go_wp2_with fail
         go_ret
         exact⟨rfl,⟨_,_,xr,yr,HDy.out.less (fun x hx=>List.mem_cons_of_mem _ hx),H1.out,H2.out⟩⟩
      · go_wp2_with fail
        go_ret
        exact⟨rfl,⟨_,_,xr,yr,HDy.out.less (fun x hx=>List.mem_cons_of_mem _ hx),H1.out,H2.out⟩⟩
    · go_wp2_with fail
      go_ret
      exact⟨rfl,⟨_,_,xr,yr,HDy.out.less (fun x hx=>List.mem_cons_of_mem _ hx),H1.out,H2.out⟩⟩
  · go_wp2_with fail
    go_ret
    exact⟨rfl,⟨_,_,xr,yr,HDy.out.less (fun x hx=>List.mem_cons_of_mem _ hx),H1.out,H2.out⟩⟩
  · go_wp2_with fail
    have HDy:=yh (HDy.out.below (Below.refl _ _).drew)
    refine wp_region_held_drew (S:=fun w'=>w'.cell? ⟨m,1,none⟩=some (.pointer (some ⟨p,0,none⟩))∧w'.cell? ⟨ga,3,none⟩=some (.int .i64 nn)) (by kernel_rfl) (HF.out _ (HDy.out.brow (gx:=m) (T:=WT) (by simp)) (HDy.out.brow (gx:=ga) (T:=AcT) (by simp))) (fun gH=>?_)
    generalize wc.drew=wq at *
    refine yg 0 (.pointer (some ⟨ga,3,none⟩)) rfl gH ?_
    refine yk 1 (.int .i64 nn) rfl (fun w' hSw=>by have hq:=hSw;have hd:=hq.2;go_simp) gH ?_
    refine yg 2 (.pointer (some ⟨m,0,none⟩)) rfl gH ?_
    simp only[Act.put,Ya,Yb,Yc,Yd,Ye,Yf]
    refine yR 3 (by kernel_rfl) rfl (fun K1 hK1=>?_)
    try simp only[Act.put,Ya,Yb,Yc,Yd,Ye,Yf]
    go_simp
    refine Calls.mono (HLe.out _ HDy.out) ?_
    rintro e wl1 ⟨rfl,hbx⟩
    have HDy:=yh (HDy.out.below hbx)
    have eH:=HF.out _ (HDy.out.brow (gx:=m) (T:=WT) (by simp)) (HDy.out.brow (gx:=ga) (T:=AcT) (by simp))
    clear hbx
    refine hK1.out _ _ eH (fun gH=>?_)
    clear hK1 K1
    clear eH
    refine yg 4 (.bool true) rfl gH ?_
    refine yg 5 (.bool true) rfl gH ?_
    simp only[Act.put,Ya,Yb,Yc,Yd,Ye,Yf]
    refine wpAnyH_done (by kernel_rfl) ?_ _
    clear gH n0 n1 n2 n3 n6 a2 a3
    obtain⟨n0,n1,n2,n3,n6⟩:=ycd (HDy.out.brow (gx:=m) (T:=WT) (X:=(WS g p (.slice AL n cL) (.slice AC nc cC) rel sc false)) (by simp))
    obtain⟨a2,a3⟩:=HAc.out _ _ (HDy.out.brow (gx:=ga) (T:=AcT) (X:=ac) (by simp))
    go_wp2_with fail
    go_ret
    exact⟨rfl,⟨_,_,xr,yr,HDy.out.less (fun x hx=>List.mem_cons_of_mem _ hx),H1.out,H2.out⟩⟩
  · go_wp2_with fail
    have HDy:=yh (HDy.out.below (Below.refl _ _).drew)
    refine wp_region_held_drew (S:=fun w'=>w'.cell? ⟨m,1,none⟩=some (.pointer (some ⟨p,0,none⟩))∧w'.cell? ⟨ga,3,none⟩=some (.int .i64 nn)) (by kernel_rfl) (HF.out _ (HDy.out.brow (gx:=m) (T:=WT) (by simp)) (HDy.out.brow (gx:=ga) (T:=AcT) (by simp))) (fun gH=>?_)
    generalize wc.drew=wq at *
    refine yg 0 (.pointer (some ⟨ga,3,none⟩)) rfl gH ?_
    refine yk 1 (.int .i64 nn) rfl (fun w' hSw=>by have hq:=hSw;have hd:=hq.2;go_simp) gH ?_
    refine yg 2 (.pointer (some ⟨m,0,none⟩)) rfl gH ?_
    simp only[Act.put,Ya,Yb,Yc,Yd,Ye,Yf]
    refine yR 3 (by kernel_rfl) rfl (fun K1 hK1=>?_)
    try simp only[Act.put,Ya,Yb,Yc,Yd,Ye,Yf]
    go_simp
    refine Calls.mono (HLe.out _ HDy.out) ?_
    rintro e wl1 ⟨rfl,hbx⟩
    have HDy:=yh (HDy.out.below hbx)
    have eH:=HF.out _ (HDy.out.brow (gx:=m) (T:=WT) (by simp)) (HDy.out.brow (gx:=ga) (T:=AcT) (by simp))
    clear hbx
    refine hK1.out _ _ eH (fun gH=>?_)
    clear hK1 K1
    clear eH
    refine yg 4 (.bool false) rfl gH ?_
    refine yg 5 (.bool false) rfl gH ?_
    simp only[Act.put,Ya,Yb,Yc,Yd,Ye,Yf]
    refine wpAnyH_done (by kernel_rfl) ?_ _
    clear gH n0 n1 n2 n3 n6 a2 a3
    obtain⟨n0,n1,n2,n3,n6⟩:=ycd (HDy.out.brow (gx:=m) (T:=WT) (X:=(WS g p (.slice AL n cL) (.slice AC nc cC) rel sc false)) (by simp))
    obtain⟨a2,a3⟩:=HAc.out _ _ (HDy.out.brow (gx:=ga) (T:=AcT) (X:=ac) (by simp))
    have HM:=yh (HDy.out.brow (gx:=m) (T:=WT) (X:=(WS g p (.slice AL n cL) (.slice AC nc cC) rel sc false)) (by simp))
    have HDz:=yh (HDy.out.less (rows':=(m,WT,(WS g p (.slice AL n cL) (.slice AC nc cC) rel sc false))::(xr++yr)) (fun x hx=>List.mem_cons_of_mem _ hx))
    have fz:=HM.out.free 6
    have HSt:=yh (Sit.own HDz.out H1.out H2.out (Chg.yat (S:=fun k=>k=m) (yaq _ m 6 (.bool true)) (fun k hk=>by cases hk;exact .inl rfl)) (safe':=rel) (sc':=sc) (bb':=true) (HM.out.set 6 (.bool true) (by simp[WS])))
    go_wp2_with fail
    go_ret
    exact⟨rfl,HSt.out⟩
end Go.Proofs.YtalfnadejpmjnaaGreatDoor
