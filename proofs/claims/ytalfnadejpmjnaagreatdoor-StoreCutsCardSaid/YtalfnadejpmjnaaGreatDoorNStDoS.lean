/- A part. -/
import Derived.Test.YtalfnadejpmjnaaGreatDoorNStSit
set_option linter.unusedVariables false
set_option linter.unusedSimpArgs false
set_option maxRecDepth 100000
set_option maxHeartbeats 25600000
namespace Go.Proofs.YtalfnadejpmjnaaGreatDoor
section
open Go.RowKit
abbrev AcT:TypeId:=36
theorem ycd {W:World}{m g p:Nat}{v u:Value}{safe sc:Int}{bb:Bool}(h:Row W m WT (WS g p v u safe sc bb)):W.cell? ⟨m,0,none⟩=some (.pointer (some ⟨g,0,none⟩))∧W.cell? ⟨m,1,none⟩=some (.pointer (some ⟨p,0,none⟩))∧W.cell? ⟨m,2,none⟩=some v∧W.cell? ⟨m,3,none⟩=some u∧W.cell? ⟨m,6,none⟩=some (.bool bb):=
 ⟨h.cell 0 (by simp[WS]),h.cell 1 (by simp[WS]),h.cell 2 (by simp[WS]),h.cell 3 (by simp[WS]),h.cell 6 (by simp[WS])⟩
theorem St.down {w0 W:World}{p g:Nat}{l:List Jn.Fl}{r:Int}{j:Jn.Jr.J}{rs:List Rp}{cs:List Ct}{rel:Int}{brk:Bool}{rows:Rws}(h:St w0 W p g l r j rs cs rel brk rows):Calls Tryz.prog 36 #[.pointer (some ⟨g,0,none⟩)] W fun e w'=>e=.returned (.bool (decide (r=0)))∧W=w':=by
 obtain⟨q,B,Z,x1,x2,x3,h⟩:=h
 exact Jn.down_S h.jn.disk
theorem Sit.own {w0 W W':World}{p g m:Nat}{l:List Jn.Fl}{r:Int}{j:Jn.Jr.J}{rs L:List Rp}{cs C:List Ct}{rel:Int}{brk bb bb':Bool}{safe sc safe' sc':Int}{v u:Value}{xr yr:Rws}(h:St w0 W p g l r j rs cs rel brk ((m,WT,WS g p v u safe sc bb)::(xr++yr)))(h1:InR w0.heap.size RpT 68 Rp.cells v L xr)(h2:InR w0.heap.size CtT 4 Ct.cells u C yr)
 (hc:Chg (fun k=>k=m) W W') (hr:Row W' m WT (WS g p v u safe' sc' bb')):Sit w0 W' p g m l r j rs cs rel brk safe' sc' bb' L C:=by
 obtain⟨q1,q2,q3⟩:=h.sit h1 h2
 refine Sit.put h h1 h2 (hc.mono (fun k hk=>.inr (.inr hk))) (q1.chg hc (fun k hk e=>q1.ne_block q3 (by decide) (e ▸ hk))) (q2.chg hc (fun k hk e=>q2.ne_block q3 (by decide) (e ▸ hk))) (fun k hk=>.inl hk) (fun k hk=>.inl hk) hr
theorem yr8 {w0 W:World}{p g m:Nat}{l l':List Jn.Fl}{r r':Int}{j j':Jn.Jr.J}{rs:List Rp}{cs:List Ct}{rel rel':Int}{brk brk':Bool}{sc:Int}(hsit:Sit w0 W p g m l r j rs cs rel brk rel sc brk rs cs)(ac:List Value)(hac :∀(W':World) b,Row W' b AcT ac→W'.cell? ⟨b,0,none⟩=some (.int .i64 3))(f:Int)
 (hsy :∀(W':World) rows,St w0 W' p g l r j rs cs rel brk rows→Calls Tryz.prog 26 #[.pointer (some ⟨p,0,none⟩)] W' fun e w'=>e=.returned (.int .i64 f)∧St w0 w' p g l' r' j' rs cs rel' brk' rows)
 (hres:(brk=true∧f=8∧rel'=rel∧brk'=true)∨(brk=false∧(r=0∧rs≠[])∧f=8∧rel'=rel∧brk'=true)∨(brk=false∧¬(r=0∧rs≠[])∧f=0∧rel'=rs.length∧brk'=false)):
 Calls Tryz.prog 12 #[.pointer (some ⟨m,0,none⟩),.agg ac.toArray] W fun e w'=>e=.returned (.bool true)∧Sit w0 w' p g m l' r' j' rs cs rel' brk' rel' (if f=0 then (cs.length:Int) else sc) brk' rs cs:=by
 obtain⟨v,u,xr,yr,h,h1,h2⟩:=hsit
 obtain⟨q1,q2,q3⟩:=h.sit h1 h2
 obtain⟨AL,cL,rfl,_,_⟩:=q1.form
 obtain⟨AC,cC,rfl,_,_⟩:=q2.form
 have hA:=h.alloc AcT ac
 have a0:=hac _ _ (hA.brow (gx:=W.heap.size) (T:=AcT) (X:=ac) (by simp))
 obtain⟨m0,m1,m2,m3,m6⟩:=ycd (hA.brow (gx:=m) (T:=WT) (X:=WS g p (.slice AL rs.length cL) (.slice AC cs.length cC) rel sc brk) (by simp))
 have HD:=yh hA.down
 have HA:=yh hA
 have HSy:=yh hsy
 have HAc:=yh hac
 have H1:=yh h1
 have H2:=yh h2
 have hnl:(0<rs.length)=(rs≠[]):=propext List.length_pos_iff
 obtain⟨n,hn⟩:=yx (rs.length)
 obtain⟨nc,hnc⟩:=yx (cs.length)
 rw[←hnl]at hres
 rw[hn]at hres hnl H1 HA m2 hA
 rw[hnc]at H2 HA m3 ⊢
 rw[hn]at *
 clear hsy hac h h1 h2 q1 q2 q3 hA m2 m3 m6 hnl hn hnc
 obtain⟨dn,hdn⟩:=yx (decide (r=0))
 rw[hdn]at HD
 obtain⟨ln,hln⟩:=yx (decide ((0:Int)<(n:Int)))
 have hln':decide ((n:Int)>0)=ln:=hln
 have hln2:decide (0<n)=ln:=by rw[←hln];simp
 have hr:(brk=true∧f=8∧rel'=rel∧brk'=true)∨(brk=false∧(dn=true∧ln=true)∧f=8∧rel'=rel∧brk'=true)∨(brk=false∧(dn=false∨ln=false)∧f=0∧rel'=n∧brk'=false):=by
  rcases hres with q|⟨q1,q2,q3⟩|⟨q1,q2,q3⟩
  · exact .inl q
  · exact .inr (.inl ⟨q1,⟨by rw[←hdn];exact decide_eq_true q2.1,by rw[←hln];exact decide_eq_true (by have:=q2.2;omega)⟩,q3⟩)
  · refine .inr (.inr ⟨q1,?_,q3⟩)
    by_cases hr0:r=0
    · refine .inr (by rw[←hln];exact decide_eq_false (fun e=>q2 ⟨hr0,by omega⟩))
    · exact .inl (by rw[←hdn];exact decide_eq_false hr0)
 clear hres hdn
 go_enter Tryz.func12,Tryz.ntmps12
 go_wp2_with fail
 refine HD.out.mono ?_
 rintro _ _ ⟨rfl,rfl⟩
 clear HD
 go_wp2_with fail
 refine(HSy.out _ _ HA.out).mono ?_
 rintro _ w2 ⟨rfl,hs⟩
 have HS:=yh (hs.less (rows':=(m,WT,WS g p (.slice AL n cL) (.slice AC nc cC) rel sc brk)::(xr++yr)) (fun x hx=>List.mem_cons_of_mem _ hx))
 have HM:=yh (HS.out.brow (gx:=m) (T:=WT) (X:=WS g p (.slice AL n cL) (.slice AC nc cC) rel sc brk) (by simp))
 have a2:=HAc.out _ _ (hs.brow (gx:=W.heap.size) (T:=AcT) (X:=ac) (by simp))
 obtain⟨n0,n1,n2,n3,n6⟩:=ycd HM.out
 clear hs HSy a0 m0 m1 HA HAc
 rcases hr with⟨rfl,rfl,rfl,rfl⟩|⟨rfl,⟨rfl,rfl⟩,rfl,rfl,rfl⟩|⟨rfl,hd,rfl,rfl,rfl⟩
 · cases dn <;> cases ln
   all_goals
    go_wp2_with fail
    go_ret
    exact⟨rfl,⟨_,_,xr,yr,HS.out,H1.out,H2.out⟩⟩
 · have fz:=HM.out.free 6
   have HSt:=yh (Sit.own HS.out H1.out H2.out (Chg.yat (S:=fun k=>k=m) (yaq w2 m 6 (.bool true)) (fun k hk=>by cases hk;exact .inl rfl)) (safe':=rel') (sc':=sc) (bb':=true) (HM.out.set 6 (.bool true) (by simp[WS])))
   go_wp2_with fail
   go_ret
   exact⟨rfl,HSt.out⟩
 · have hdl:(dn=true∧ln=false)∨dn=false:=by
    cases dn
    · exact .inr rfl
    · exact .inl ⟨rfl,by simpa using hd⟩
   clear hd
   rcases hdl with⟨rfl,rfl⟩|rfl
   · go_wp2_with fail
     have HRw:=yh (HM.out.below (Below.refl _ _).drew)
     refine wp_region_held_drew (S:=fun w'=>Chg (fun k=>k=m) w2 w'∧w'.cell? ⟨m,2,none⟩=some (.slice AL n cL)∧w'.cell? ⟨m,3,none⟩=some (.slice AC nc cC)) (by kernel_rfl) (⟨Chg.ya6 (Below.refl _ _).drew,((Below.refl w2.heap.size w2).drew.cell (p:=⟨m,2,none⟩) HM.out.lt).trans n2,((Below.refl w2.heap.size w2).drew.cell (p:=⟨m,3,none⟩) HM.out.lt).trans n3⟩) (fun gH=>?_)
     generalize w2.drew=wq at *
     refine yg 0 (.pointer (some ⟨m,0,none⟩)) rfl gH ?_
     refine yg 1 (.pointer (some ⟨m,0,none⟩)) rfl gH ?_
     refine yg 2 (.pointer (some ⟨m,0,none⟩)) rfl gH ?_
     simp only[Act.put,Ya,Yb,Yc,Yd,Ye,Yf]
     refine yg 3 (.pointer (some ⟨m,0,none⟩)) rfl gH ?_
     refine yg 4 (.pointer (some ⟨m,2,none⟩)) rfl gH ?_
     refine yk 5 (.slice AL n cL) rfl (fun w' hSw=>by have hq:=hSw;have hd:=hq.2.1;go_simp) gH ?_
     simp only[Act.put,Ya,Yb,Yc,Yd,Ye,Yf]
     refine yg 6 (.int .i64 n) rfl gH ?_
     refine yg 7 (.pointer (some ⟨m,0,none⟩)) rfl gH ?_
     refine yg 8 (.pointer (some ⟨m,0,none⟩)) rfl gH ?_
     simp only[Act.put,Ya,Yb,Yc,Yd,Ye,Yf]
     refine yg 9 (.pointer (some ⟨m,3,none⟩)) rfl gH ?_
     refine yk 10 (.slice AC nc cC) rfl (fun w' hSw=>by have hq:=hSw;have hd:=hq.2.2;go_simp) gH ?_
     refine yg 11 (.int .i64 nc) rfl gH ?_
     simp only[Act.put,Ya,Yb,Yc,Yd,Ye,Yf]
     refine yg 12 (.pointer (some ⟨m,0,none⟩)) rfl gH ?_
     refine yg 13 (.pointer (some ⟨m,4,none⟩)) rfl gH ?_
     refine yR 14 (by kernel_rfl) rfl (fun K1 hK1=>?_)
     try simp only[Act.put,Ya,Yb,Yc,Yd,Ye,Yf]
     rw[if_pos (by rfl)]
     refine ybo 3 (.tmp 269) (.tmp 262) rfl m 4 WT _ (.int .i64 n) rfl rfl rfl rfl HRw.out (by simp[WS]) rfl ?_
     intro ws1 hrS hgS
     have hcS:=Chg.yat (S:=fun k=>k=m) hgS (fun k hk=>by cases hk;exact .inl rfl)
     have eH:=(⟨gH.1.trans hcS (fun k hk=>.inl hk),hrS.cell 2 (by simp[WS]),hrS.cell 3 (by simp[WS])⟩:Chg (fun k=>k=m) w2 ws1∧ws1.cell? ⟨m,2,none⟩=some (.slice AL n cL)∧ws1.cell? ⟨m,3,none⟩=some (.slice AC nc cC))
     have HRw:=yh hrS
     clear hrS hgS hcS
     refine hK1.out _ _ eH (fun gH=>?_)
     clear hK1 K1
     clear eH
     refine yg 15 (.pointer (some ⟨m,0,none⟩)) rfl gH ?_
     refine yg 16 (.pointer (some ⟨m,5,none⟩)) rfl gH ?_
     simp only[Act.put,Ya,Yb,Yc,Yd,Ye,Yf]
     refine yR 17 (by kernel_rfl) rfl (fun K1 hK1=>?_)
     try simp only[Act.put,Ya,Yb,Yc,Yd,Ye,Yf]
     rw[if_pos (by rfl)]
     refine ybo 3 (.tmp 271) (.tmp 267) rfl m 5 WT _ (.int .i64 nc) rfl rfl rfl rfl HRw.out (by simp[WS]) rfl ?_
     intro ws2 hrS hgS
     have hcS:=Chg.yat (S:=fun k=>k=m) hgS (fun k hk=>by cases hk;exact .inl rfl)
     have eH:=(⟨gH.1.trans hcS (fun k hk=>.inl hk),hrS.cell 2 (by simp[WS]),hrS.cell 3 (by simp[WS])⟩:Chg (fun k=>k=m) w2 ws2∧ws2.cell? ⟨m,2,none⟩=some (.slice AL n cL)∧ws2.cell? ⟨m,3,none⟩=some (.slice AC nc cC))
     have HRw:=yh hrS
     clear hrS hgS hcS
     refine hK1.out _ _ eH (fun gH=>?_)
     clear hK1 K1
     clear eH
     refine wpAnyH_done (by kernel_rfl) ?_ _
     have HSt:=yh (Sit.own HS.out H1.out H2.out gH.1 (safe':=(n:Int)) (sc':=(nc:Int)) (bb':=false) HRw.out)
     clear gH
     go_wp2_with fail
     go_ret
     exact⟨rfl,HSt.out⟩
   · go_wp2_with fail
     have HRw:=yh (HM.out.below (Below.refl _ _).drew)
     refine wp_region_held_drew (S:=fun w'=>Chg (fun k=>k=m) w2 w'∧w'.cell? ⟨m,2,none⟩=some (.slice AL n cL)∧w'.cell? ⟨m,3,none⟩=some (.slice AC nc cC)) (by kernel_rfl) (⟨Chg.ya6 (Below.refl _ _).drew,((Below.refl w2.heap.size w2).drew.cell (p:=⟨m,2,none⟩) HM.out.lt).trans n2,((Below.refl w2.heap.size w2).drew.cell (p:=⟨m,3,none⟩) HM.out.lt).trans n3⟩) (fun gH=>?_)
     generalize w2.drew=wq at *
     refine yg 0 (.pointer (some ⟨m,0,none⟩)) rfl gH ?_
     refine yg 1 (.pointer (some ⟨m,0,none⟩)) rfl gH ?_
     simp only[Act.put,Ya,Yb,Yc,Yd,Ye,Yf]
     refine yg 2 (.pointer (some ⟨m,0,none⟩)) rfl gH ?_
     refine yg 3 (.pointer (some ⟨m,0,none⟩)) rfl gH ?_
     refine yg 4 (.pointer (some ⟨m,2,none⟩)) rfl gH ?_
     simp only[Act.put,Ya,Yb,Yc,Yd,Ye,Yf]
     refine yk 5 (.slice AL n cL) rfl (fun w' hSw=>by have hq:=hSw;have hd:=hq.2.1;go_simp) gH ?_
     refine yg 6 (.int .i64 n) rfl gH ?_
     refine yg 7 (.pointer (some ⟨m,0,none⟩)) rfl gH ?_
     simp only[Act.put,Ya,Yb,Yc,Yd,Ye,Yf]
     refine yg 8 (.pointer (some ⟨m,0,none⟩)) rfl gH ?_
     refine yg 9 (.pointer (some ⟨m,3,none⟩)) rfl gH ?_
     refine yk 10 (.slice AC nc cC) rfl (fun w' hSw=>by have hq:=hSw;have hd:=hq.2.2;go_simp) gH ?_
     simp only[Act.put,Ya,Yb,Yc,Yd,Ye,Yf]
     refine yg 11 (.int .i64 nc) rfl gH ?_
     refine yg 12 (.pointer (some ⟨m,0,none⟩)) rfl gH ?_
     refine yg 13 (.pointer (some ⟨m,4,none⟩)) rfl gH ?_
     simp only[Act.put,Ya,Yb,Yc,Yd,Ye,Yf]
     refine yR 14 (by kernel_rfl) rfl (fun K1 hK1=>?_)
     try simp only[Act.put,Ya,Yb,Yc,Yd,Ye,Yf]
     rw[if_pos (by rfl)]
     refine ybo 3 (.tmp 269) (.tmp 262) rfl m 4 WT _ (.int .i64 n) rfl rfl rfl rfl HRw.out (by simp[WS]) rfl ?_
     intro ws1 hrS hgS
     have hcS:=Chg.yat (S:=fun k=>k=m) hgS (fun k hk=>by cases hk;exact .inl rfl)
     have eH:=(⟨gH.1.trans hcS (fun k hk=>.inl hk),hrS.cell 2 (by simp[WS]),hrS.cell 3 (by simp[WS])⟩:Chg (fun k=>k=m) w2 ws1∧ws1.cell? ⟨m,2,none⟩=some (.slice AL n cL)∧ws1.cell? ⟨m,3,none⟩=some (.slice AC nc cC))
     have HRw:=yh hrS
     clear hrS hgS hcS
     refine hK1.out _ _ eH (fun gH=>?_)
     clear hK1 K1
     clear eH
     refine yg 15 (.pointer (some ⟨m,0,none⟩)) rfl gH ?_
     refine yg 16 (.pointer (some ⟨m,5,none⟩)) rfl gH ?_
     simp only[Act.put,Ya,Yb,Yc,Yd,Ye,Yf]
     refine yR 17 (by kernel_rfl) rfl (fun K1 hK1=>?_)
     try simp only[Act.put,Ya,Yb,Yc,Yd,Ye,Yf]
     rw[if_pos (by rfl)]
     refine ybo 3 (.tmp 271) (.tmp 267) rfl m 5 WT _ (.int .i64 nc) rfl rfl rfl rfl HRw.out (by simp[WS]) rfl ?_
     intro ws2 hrS hgS
     have hcS:=Chg.yat (S:=fun k=>k=m) hgS (fun k hk=>by cases hk;exact .inl rfl)
     have eH:=(⟨gH.1.trans hcS (fun k hk=>.inl hk),hrS.cell 2 (by simp[WS]),hrS.cell 3 (by simp[WS])⟩:Chg (fun k=>k=m) w2 ws2∧ws2.cell? ⟨m,2,none⟩=some (.slice AL n cL)∧ws2.cell? ⟨m,3,none⟩=some (.slice AC nc cC))
     have HRw:=yh hrS
     clear hrS hgS hcS
     refine hK1.out _ _ eH (fun gH=>?_)
     clear hK1 K1
     clear eH
     refine wpAnyH_done (by kernel_rfl) ?_ _
     have HSt:=yh (Sit.own HS.out H1.out H2.out gH.1 (safe':=(n:Int)) (sc':=(nc:Int)) (bb':=false) HRw.out)
     clear gH
     go_wp2_with fail
     go_ret
     exact⟨rfl,HSt.out⟩
end
section
open Go.RowKit
theorem ysb {w0 W:World}{p g m:Nat}{l l':List Jn.Fl}{r r':Int}{j j':Jn.Jr.J}{rs:List Rp}{cs:List Ct}{rel rel':Int}{brk brk':Bool}{sc:Int}(hsit:Sit w0 W p g m l r j rs cs rel brk rel sc brk rs cs)(kk:Int)(hkk:kk<0∨3<kk)(ac:List Value)(hac :∀(W':World) b,Row W' b AcT ac→W'.cell? ⟨b,0,none⟩=some (.int .i64 kk))(f:Int)
 (hcp :∀(W':World) rows,St w0 W' p g l r j rs cs rel brk rows→Calls Tryz.prog 33 #[.pointer (some ⟨p,0,none⟩)] W' fun e w'=>e=.returned (.int .i64 f)∧St w0 w' p g l' r' j' rs cs rel' brk' rows)
 (hres:(brk=true∧f=8∧rel'=rel∧brk'=true)∨(brk=false∧(r=0∨r'=0)∧f=8∧rel'=rel∧brk'=true)∨(brk=false∧r≠0∧f=0∧rel'=rs.length∧brk'=false)):
 Calls Tryz.prog 12 #[.pointer (some ⟨m,0,none⟩),.agg ac.toArray] W fun e w'=>e=.returned (.bool true)∧Sit w0 w' p g m l' r' j' rs cs rel' brk' rel' (if f=0 then (cs.length:Int) else sc) brk' rs cs:=by
 obtain⟨v,u,xr,yr,h,h1,h2⟩:=hsit
 obtain⟨q1,q2,q3⟩:=h.sit h1 h2
 obtain⟨AL,cL,rfl,_,_⟩:=q1.form
 obtain⟨AC,cC,rfl,_,_⟩:=q2.form
 have hA:=h.alloc AcT ac
 have a0:=hac _ _ (hA.brow (gx:=W.heap.size) (T:=AcT) (X:=ac) (by simp))
 obtain⟨m0,m1,m2,m3,m6⟩:=ycd (hA.brow (gx:=m) (T:=WT) (X:=WS g p (.slice AL rs.length cL) (.slice AC cs.length cC) rel sc brk) (by simp))
 have HD:=yh hA.down
 have HA:=yh hA
 have HCp:=yh hcp
 have HAc:=yh hac
 have H1:=yh h1
 have H2:=yh h2
 obtain⟨n,hn⟩:=yx (rs.length)
 obtain⟨nc,hnc⟩:=yx (cs.length)
 rw[hn]at hres H1 HA m2 hA
 rw[hnc]at H2 HA m3 ⊢
 rw[hn]at *
 clear hcp hac h h1 h2 q1 q2 q3 hA m2 m3 m6 hn hnc
 obtain⟨dn,hdn⟩:=yx (decide (r=0))
 rw[hdn]at HD
 obtain⟨dm,hdm⟩:=yx (decide (r'=0))
 have HDm:=yh hdm
 have hr:(brk=true∧f=8∧rel'=rel∧brk'=true)∨(brk=false∧(dn=true∨dm=true)∧f=8∧rel'=rel∧brk'=true)∨(brk=false∧dn=false∧f=0∧rel'=n∧brk'=false):=by
  rcases hres with q|⟨q1,q2,q3⟩|⟨q1,q2,q3⟩
  · exact .inl q
  · exact .inr (.inl ⟨q1,q2.elim (fun e=>.inl (by rw[←hdn];exact decide_eq_true e)) (fun e=>.inr (by rw[←hdm];exact decide_eq_true e)),q3⟩)
  · exact .inr (.inr ⟨q1,by rw[←hdn];exact decide_eq_false q2,q3⟩)
 have k0:decide (kk=0)=false:=decide_eq_false (by omega)
 have k1:decide (kk=1)=false:=decide_eq_false (by omega)
 have k2:decide (kk=2)=false:=decide_eq_false (by omega)
 have k3:decide (kk=3)=false:=decide_eq_false (by omega)
 have j0:(kk == 0)=false:=by simp;omega
 have j1:(kk == 1)=false:=by simp;omega
 have j2:(kk == 2)=false:=by simp;omega
 have j3:(kk == 3)=false:=by simp;omega
 have i0:(kk=0)=False:=by simp;omega
 have i1:(kk=1)=False:=by simp;omega
 have i2:(kk=2)=False:=by simp;omega
 have i3:(kk=3)=False:=by simp;omega
 obtain⟨kp,hkp⟩:=yx (decide (2<kk))
 have hkp':decide (kk>2)=kp:=hkp
 have hkm:decide (kk<0) = !kp:=by rw[←hkp];by_cases q:2<kk <;> simp[q] <;> omega
 clear hres hdn hdm hkk
 go_enter Tryz.func12,Tryz.ntmps12
 go_wp2_with fail
 refine HD.out.mono ?_
 rintro _ _ ⟨rfl,rfl⟩
 clear HD
 go_wp2_with fail
 refine(HCp.out _ _ HA.out).mono ?_
 rintro _ w2 ⟨rfl,hs⟩
 have HS:=yh (hs.less (rows':=(m,WT,WS g p (.slice AL n cL) (.slice AC nc cC) rel sc brk)::(xr++yr)) (fun x hx=>List.mem_cons_of_mem _ hx))
 have HM:=yh (HS.out.brow (gx:=m) (T:=WT) (X:=WS g p (.slice AL n cL) (.slice AC nc cC) rel sc brk) (by simp))
 have a2:=HAc.out _ _ (hs.brow (gx:=W.heap.size) (T:=AcT) (X:=ac) (by simp))
 obtain⟨n0,n1,n2,n3,n6⟩:=ycd HM.out
 have HD2:=yh HS.out.down
 rw[HDm.out]at HD2
 clear hs HCp a0 m0 m1 HA HAc HDm
 rcases hr with⟨rfl,rfl,rfl,rfl⟩|⟨rfl,hd,rfl,rfl,rfl⟩|⟨rfl,rfl,rfl,rfl,rfl⟩
 · cases dn
   · go_wp2_with fail
     refine HD2.out.mono ?_
     rintro _ _ ⟨rfl,rfl⟩
     cases dm
     all_goals
      go_wp2_with fail
      go_ret
      exact⟨rfl,⟨_,_,xr,yr,HS.out,H1.out,H2.out⟩⟩
   · go_wp2_with fail
     go_ret
     exact⟨rfl,⟨_,_,xr,yr,HS.out,H1.out,H2.out⟩⟩
 · have fz:=HM.out.free 6
   have HSt:=yh (Sit.own HS.out H1.out H2.out (Chg.yat (S:=fun k=>k=m) (yaq w2 m 6 (.bool true)) (fun k hk=>by cases hk;exact .inl rfl)) (safe':=rel') (sc':=sc) (bb':=true) (HM.out.set 6 (.bool true) (by simp[WS])))
   cases dn
   · obtain rfl:dm=true:=by simpa using hd
     go_wp2_with fail
     refine HD2.out.mono ?_
     rintro _ _ ⟨rfl,rfl⟩
     go_wp2_with fail
     go_ret
     exact⟨rfl,HSt.out⟩
   · go_wp2_with fail
     go_ret
     exact⟨rfl,HSt.out⟩
 · cases kp
   · go_wp2_with fail
     have HRw:=yh (HM.out.below (Below.refl _ _).drew)
     refine wp_region_held_drew (S:=fun w'=>Chg (fun k=>k=m) w2 w'∧w'.cell? ⟨m,2,none⟩=some (.slice AL n cL)∧w'.cell? ⟨m,3,none⟩=some (.slice AC nc cC)) (by kernel_rfl) (⟨Chg.ya6 (Below.refl _ _).drew,((Below.refl w2.heap.size w2).drew.cell (p:=⟨m,2,none⟩) HM.out.lt).trans n2,((Below.refl w2.heap.size w2).drew.cell (p:=⟨m,3,none⟩) HM.out.lt).trans n3⟩) (fun gH=>?_)
     generalize w2.drew=wq at *
     refine yg 0 (.pointer (some ⟨m,0,none⟩)) rfl gH ?_
     refine yg 1 (.pointer (some ⟨m,0,none⟩)) rfl gH ?_
     simp only[Act.put,Ya,Yb,Yc,Yd,Ye,Yf]
     refine yg 2 (.pointer (some ⟨m,0,none⟩)) rfl gH ?_
     refine yg 3 (.pointer (some ⟨m,0,none⟩)) rfl gH ?_
     refine yg 4 (.pointer (some ⟨m,2,none⟩)) rfl gH ?_
     simp only[Act.put,Ya,Yb,Yc,Yd,Ye,Yf]
     refine yk 5 (.slice AL n cL) rfl (fun w' hSw=>by have hq:=hSw;have hd:=hq.2.1;go_simp) gH ?_
     refine yg 6 (.int .i64 n) rfl gH ?_
     refine yg 7 (.pointer (some ⟨m,0,none⟩)) rfl gH ?_
     simp only[Act.put,Ya,Yb,Yc,Yd,Ye,Yf]
     refine yg 8 (.pointer (some ⟨m,0,none⟩)) rfl gH ?_
     refine yg 9 (.pointer (some ⟨m,3,none⟩)) rfl gH ?_
     refine yk 10 (.slice AC nc cC) rfl (fun w' hSw=>by have hq:=hSw;have hd:=hq.2.2;go_simp) gH ?_
     simp only[Act.put,Ya,Yb,Yc,Yd,Ye,Yf]
     refine yg 11 (.int .i64 nc) rfl gH ?_
     refine yg 12 (.pointer (some ⟨m,0,none⟩)) rfl gH ?_
     refine yg 13 (.pointer (some ⟨m,4,none⟩)) rfl gH ?_
     simp only[Act.put,Ya,Yb,Yc,Yd,Ye,Yf]
     refine yR 14 (by kernel_rfl) rfl (fun K1 hK1=>?_)
     try simp only[Act.put,Ya,Yb,Yc,Yd,Ye,Yf]
     rw[if_pos (by rfl)]
     refine ybo 3 (.tmp 269) (.tmp 262) rfl m 4 WT _ (.int .i64 n) rfl rfl rfl rfl HRw.out (by simp[WS]) rfl ?_
     intro ws1 hrS hgS
     have hcS:=Chg.yat (S:=fun k=>k=m) hgS (fun k hk=>by cases hk;exact .inl rfl)
     have eH:=(⟨gH.1.trans hcS (fun k hk=>.inl hk),hrS.cell 2 (by simp[WS]),hrS.cell 3 (by simp[WS])⟩:Chg (fun k=>k=m) w2 ws1∧ws1.cell? ⟨m,2,none⟩=some (.slice AL n cL)∧ws1.cell? ⟨m,3,none⟩=some (.slice AC nc cC))
     have HRw:=yh hrS
     clear hrS hgS hcS
     refine hK1.out _ _ eH (fun gH=>?_)
     clear hK1 K1
     clear eH
     refine yg 15 (.pointer (some ⟨m,0,none⟩)) rfl gH ?_
     refine yg 16 (.pointer (some ⟨m,5,none⟩)) rfl gH ?_
     simp only[Act.put,Ya,Yb,Yc,Yd,Ye,Yf]
     refine yR 17 (by kernel_rfl) rfl (fun K1 hK1=>?_)
     try simp only[Act.put,Ya,Yb,Yc,Yd,Ye,Yf]
     rw[if_pos (by rfl)]
     refine ybo 3 (.tmp 271) (.tmp 267) rfl m 5 WT _ (.int .i64 nc) rfl rfl rfl rfl HRw.out (by simp[WS]) rfl ?_
     intro ws2 hrS hgS
     have hcS:=Chg.yat (S:=fun k=>k=m) hgS (fun k hk=>by cases hk;exact .inl rfl)
     have eH:=(⟨gH.1.trans hcS (fun k hk=>.inl hk),hrS.cell 2 (by simp[WS]),hrS.cell 3 (by simp[WS])⟩:Chg (fun k=>k=m) w2 ws2∧ws2.cell? ⟨m,2,none⟩=some (.slice AL n cL)∧ws2.cell? ⟨m,3,none⟩=some (.slice AC nc cC))
     have HRw:=yh hrS
     clear hrS hgS hcS
     refine hK1.out _ _ eH (fun gH=>?_)
     clear hK1 K1
     clear eH
     refine wpAnyH_done (by kernel_rfl) ?_ _
     have HSt:=yh (Sit.own HS.out H1.out H2.out gH.1 (safe':=(n:Int)) (sc':=(nc:Int)) (bb':=false) HRw.out)
     clear gH
     go_wp2_with fail
     go_ret
     exact⟨rfl,HSt.out⟩
   · go_wp2_with fail
     have HRw:=yh (HM.out.below (Below.refl _ _).drew)
     refine wp_region_held_drew (S:=fun w'=>Chg (fun k=>k=m) w2 w'∧w'.cell? ⟨m,2,none⟩=some (.slice AL n cL)∧w'.cell? ⟨m,3,none⟩=some (.slice AC nc cC)) (by kernel_rfl) (⟨Chg.ya6 (Below.refl _ _).drew,((Below.refl w2.heap.size w2).drew.cell (p:=⟨m,2,none⟩) HM.out.lt).trans n2,((Below.refl w2.heap.size w2).drew.cell (p:=⟨m,3,none⟩) HM.out.lt).trans n3⟩) (fun gH=>?_)
     generalize w2.drew=wq at *
     refine yg 0 (.pointer (some ⟨m,0,none⟩)) rfl gH ?_
     refine yg 1 (.pointer (some ⟨m,0,none⟩)) rfl gH ?_
     simp only[Act.put,Ya,Yb,Yc,Yd,Ye,Yf]
     refine yg 2 (.pointer (some ⟨m,0,none⟩)) rfl gH ?_
     refine yg 3 (.pointer (some ⟨m,0,none⟩)) rfl gH ?_
     refine yg 4 (.pointer (some ⟨m,2,none⟩)) rfl gH ?_
     simp only[Act.put,Ya,Yb,Yc,Yd,Ye,Yf]
     refine yk 5 (.slice AL n cL) rfl (fun w' hSw=>by have hq:=hSw;have hd:=hq.2.1;go_simp) gH ?_
     refine yg 6 (.int .i64 n) rfl gH ?_
     refine yg 7 (.pointer (some ⟨m,0,none⟩)) rfl gH ?_
     simp only[Act.put,Ya,Yb,Yc,Yd,Ye,Yf]
     refine yg 8 (.pointer (some ⟨m,0,none⟩)) rfl gH ?_
     refine yg 9 (.pointer (some ⟨m,3,none⟩)) rfl gH ?_
     refine yk 10 (.slice AC nc cC) rfl (fun w' hSw=>by have hq:=hSw;have hd:=hq.2.2;go_simp) gH ?_
     simp only[Act.put,Ya,Yb,Yc,Yd,Ye,Yf]
     refine yg 11 (.int .i64 nc) rfl gH ?_
     refine yg 12 (.pointer (some ⟨m,0,none⟩)) rfl gH ?_
     refine yg 13 (.pointer (some ⟨m,4,none⟩)) rfl gH ?_
     simp only[Act.put,Ya,Yb,Yc,Yd,Ye,Yf]
     refine yR 14 (by kernel_rfl) rfl (fun K1 hK1=>?_)
     try simp only[Act.put,Ya,Yb,Yc,Yd,Ye,Yf]
     rw[if_pos (by rfl)]
     refine ybo 3 (.tmp 269) (.tmp 262) rfl m 4 WT _ (.int .i64 n) rfl rfl rfl rfl HRw.out (by simp[WS]) rfl ?_
     intro ws1 hrS hgS
     have hcS:=Chg.yat (S:=fun k=>k=m) hgS (fun k hk=>by cases hk;exact .inl rfl)
     have eH:=(⟨gH.1.trans hcS (fun k hk=>.inl hk),hrS.cell 2 (by simp[WS]),hrS.cell 3 (by simp[WS])⟩:Chg (fun k=>k=m) w2 ws1∧ws1.cell? ⟨m,2,none⟩=some (.slice AL n cL)∧ws1.cell? ⟨m,3,none⟩=some (.slice AC nc cC))
     have HRw:=yh hrS
     clear hrS hgS hcS
     refine hK1.out _ _ eH (fun gH=>?_)
     clear hK1 K1
     clear eH
     refine yg 15 (.pointer (some ⟨m,0,none⟩)) rfl gH ?_
     refine yg 16 (.pointer (some ⟨m,5,none⟩)) rfl gH ?_
     simp only[Act.put,Ya,Yb,Yc,Yd,Ye,Yf]
     refine yR 17 (by kernel_rfl) rfl (fun K1 hK1=>?_)
     try simp only[Act.put,Ya,Yb,Yc,Yd,Ye,Yf]
     rw[if_pos (by rfl)]
     refine ybo 3 (.tmp 271) (.tmp 267) rfl m 5 WT _ (.int .i64 nc) rfl rfl rfl rfl HRw.out (by simp[WS]) rfl ?_
     intro ws2 hrS hgS
     have hcS:=Chg.yat (S:=fun k=>k=m) hgS (fun k hk=>by cases hk;exact .inl rfl)
     have eH:=(⟨gH.1.trans hcS (fun k hk=>.inl hk),hrS.cell 2 (by simp[WS]),hrS.cell 3 (by simp[WS])⟩:Chg (fun k=>k=m) w2 ws2∧ws2.cell? ⟨m,2,none⟩=some (.slice AL n cL)∧ws2.cell? ⟨m,3,none⟩=some (.slice AC nc cC))
     have HRw:=yh hrS
     clear hrS hgS hcS
     refine hK1.out _ _ eH (fun gH=>?_)
     clear hK1 K1
     clear eH
     refine wpAnyH_done (by kernel_rfl) ?_ _
     have HSt:=yh (Sit.own HS.out H1.out H2.out gH.1 (safe':=(n:Int)) (sc':=(nc:Int)) (bb':=false) HRw.out)
     clear gH
     go_wp2_with fail
     go_ret
     exact⟨rfl,HSt.out⟩
end
end Go.Proofs.YtalfnadejpmjnaaGreatDoor
