/- A part. -/
import Derived.Test.YtalfnadejpmjnaaGreatDoorNOdRmake
import Derived.Test.YtalfnadejpmjnaaGreatDoorNShaRef
import Derived.Test.YtalfnadejpmjnaaGreatDoorNStDoT
set_option linter.unusedVariables false
set_option linter.unusedSimpArgs false
set_option maxRecDepth 100000
set_option maxHeartbeats 25600000
namespace Go.Proofs.YtalfnadejpmjnaaGreatDoor
open Go.RowKit
def Od.timeW (rs:List Rp)(nn:Int):Int:=if 0<rs.length∧0≤nn∧nn<1000 then Od.last rs+nn else nn
theorem Od.Good.times20 {rs:List Rp}(h:Od.Good rs) :∀r∈rs,0≤r.time∧r.time≤1099511627776:=by
 intro r hr
 obtain⟨k,hk,rfl⟩:=List.getElem_of_mem hr
 have:=(h.took k hk).rok
 rw[Rp.ydg]at this
 exact this.2.2.1
theorem yo5 {w0 W:World}{p g m:Nat}{l l':List Jn.Fl}{r r':Int}{j j':Jn.Jr.J}{rs rs':List Rp}{cs:List Ct}{rel:Int}{brk brk':Bool}{sc:Int}(hsit:Sit w0 W p g m l r j rs cs rel brk rel sc brk rs cs)(hgo:Od.Good rs)(hlen:rs.length≤100000)(kk mk nn:Int)(body:ByteArray)(hkk:kk=0∨kk=1)(hbs:body.size≤140737488351232)(ac:List Value)(hac :∀(W':World) b,Row W' b AcT ac→W'.cell? ⟨b,0,none⟩=some (.int .i64 kk)∧W'.cell? ⟨b,1,none⟩=some (.int .i64 mk)∧W'.cell? ⟨b,2,none⟩=some (.int .i64 nn)∧W'.cell? ⟨b,4,none⟩=some (.string body))(RR:Rp)(hRR:RR.Fits)(av f:Int)
 (hask :∀(W':World) rows,St w0 W' p g l r j rs cs rel brk rows→Calls Tryz.prog 32 #[.pointer (some ⟨p,0,none⟩),.int .i64 mk,.string body,.int .i64 (Od.timeW rs nn)] W' fun e w'=>e=.returned (.int .i64 av)∧Below W'.heap.size W' w')
 (hadd :∀(W':World) rows,St w0 W' p g l r j rs cs rel brk rows→Calls Tryz.prog 30 #[.pointer (some ⟨p,0,none⟩),.int .i64 mk,.string body,.int .i64 (Od.timeW rs nn)] W' fun e w'=>e=.returned (.tuple #[.agg RR.cells.toArray,.int .i64 f])∧St w0 w' p g l' r' j' rs' cs rel brk' rows)
 (hres:(brk=true∧av=8∧f=8∧brk'=true∧rs'=rs)∨(brk=false∧(Od.mk rs mk body (Od.timeW rs nn)).2.2≠0∧av=(Od.mk rs mk body (Od.timeW rs nn)).2.2∧f=(Od.mk rs mk body (Od.timeW rs nn)).2.2∧brk'=false∧rs'=rs)∨(brk=false∧(Od.mk rs mk body (Od.timeW rs nn)).2.2=0∧av=0∧r≠0∧f=0∧brk'=false∧RR=(Od.mk rs mk body (Od.timeW rs nn)).1∧rs'=rs ++ [(Od.mk rs mk body (Od.timeW rs nn)).1])∨(brk=false∧(Od.mk rs mk body (Od.timeW rs nn)).2.2=0∧av=0∧r=0∧f=8∧brk'=true∧rs'=rs)):
 Calls Tryz.prog 12 #[.pointer (some ⟨m,0,none⟩),.agg ac.toArray] W fun e w'=>e=.returned (.bool true)∧Sit w0 w' p g m l' r' j' rs' cs rel brk' rel sc brk' rs' cs:=by
 obtain⟨v,u,xr,yr,h,h1,h2⟩:=hsit
 obtain⟨q1,q2,q3⟩:=h.sit h1 h2
 obtain⟨hfit,hlen'⟩:=h.lists
 obtain⟨AL,cL,rfl,_,_⟩:=q1.form
 obtain⟨AC,cC,rfl,_,_⟩:=q2.form
 have hA:=h.alloc AcT ac
 have htB:0<rs.length→0≤Od.last rs∧Od.last rs≤1099511627776:=fun h0=>by
  rw[(Od.ydb (n:=rs.length-1) (by omega)).2]
  exact hgo.times20 _ (List.getElem_mem _)
 obtain⟨tm,htm⟩:=yx (Od.timeW rs nn)
 rw[htm]at hask hadd hres
 have hmf:=Od.ye0 hgo mk body tm
 have hMk :∀(W':World) rows,St w0 W' p g l r j rs cs rel brk rows→(∀x∈(m,WT,WS g p (.slice AL rs.length cL) (.slice AC cs.length cC) rel sc brk)::(xr++yr),x∈rows)→Calls Tryz.prog 37 #[.slice AL rs.length cL,.int .i64 mk,.string body,.int .i64 tm] W' fun e w'=>e=.returned (.tuple #[.agg (Od.mk rs mk body tm).1.cells.toArray,.int .i64 (Od.mk rs mk body tm).2.2])∧Below W'.heap.size W' w':=fun W' rows hs hm=>by
  obtain⟨z1,z2,z3⟩:=(hs.less hm).sit h1 h2
  obtain⟨A,c,e,hsl⟩:=z1.slR20 hfit hlen'
  injection e with e1 e2 e3
  subst e1;subst e3
  exact yld (fun s w h=>yny s w h) rs hgo AL cL mk tm body hbs W' hsl
 have hSi :∀(W':World) rows,St w0 W' p g l' r' j' rs' cs rel brk' rows→(∀x∈(m,WT,WS g p (.slice AL rs.length cL) (.slice AC cs.length cC) rel sc brk)::(xr++yr),x∈rows)→OwnL W' w0.heap.size RpT 68 Rp.cells (.slice AL rs.length cL) rs∧OwnL W' w0.heap.size CtT 4 Ct.cells (.slice AC cs.length cC) cs∧Row W' m WT (WS g p (.slice AL rs.length cL) (.slice AC cs.length cC) rel sc brk):=fun W' rows hs hm=>(hs.less hm).sit h1 h2
 have hTime :∀(W':World) rows,St w0 W' p g l r j rs cs rel brk rows→(∀x∈(m,WT,WS g p (.slice AL rs.length cL) (.slice AC cs.length cC) rel sc brk)::(xr++yr),x∈rows)→0<rs.length→∃gL oL,AL=some ⟨gL,oL,none⟩∧W'.cell? ⟨gL,oL+(rs.length-1)*68+2,none⟩=some (.int .i64 (Od.last rs)):=fun W' rows hs hm h0=>by
  obtain⟨z1,z2,z3⟩:=(hs.less hm).sit h1 h2
  obtain⟨A,c,e,hsl⟩:=z1.slR20 hfit hlen'
  injection e with e1 e2 e3
  subst e1;subst e3
  obtain⟨gA,oA,rfl,hg,hat⟩:=hsl.1 (by intro q;rw[q]at h0;simp at h0)
  have hml:rs.length-1<rs.length:=by omega
  have hf:=hfit _ (List.getElem_mem hml)
  refine⟨gA,oA,rfl,?_⟩
  rw[(Od.ydb (n:=rs.length-1) (by omega)).2]
  exact(Rp.at hf.prev (hat _ hml)).2.2.1
 unfold Od.timeW at htm
 have hTE:=fun W=>ytz W (Od.mk rs mk body tm).1 (Od.mk rs mk body tm).1 hmf hmf (v:=true) (by simp)
 obtain⟨XR,hXR⟩:=yx ((Od.mk rs mk body tm).1)
 obtain⟨ee,hee⟩:=yx ((Od.mk rs mk body tm).2.2)
 rw[hXR]at hres hMk hmf hTE
 rw[hee]at hres hMk
 obtain⟨lt,hlt⟩:=yx (Od.last rs)
 rw[hlt]at htm hTime htB
 have HXf:=yh hmf
 have HX68:=yh (Rp.yao hmf.prev hmf.hash)
 have HX1:=yh (Rp.yan hmf.prev hmf.hash)
 have HR68:=yh (Rp.yao hRR.prev hRR.hash)
 have HR1:=yh (Rp.yan hRR.prev hRR.hash)
 have HRX:Hid (RR=XR→RR.cells=XR.cells):=yh (fun e=>by rw[e])
 obtain⟨XC,hXC⟩:=yx (XR.cells)
 obtain⟨RC,hRC⟩:=yx (RR.cells)
 rw[hXC]at HX68 HX1 hMk hTE HRX
 rw[hRC]at HR68 HR1 HRX hadd
 have HXC:=yh hXC
 have HTE:=yh hTE
 have HLl:Hid (rs.length≤100000):=yh hlen
 have hzv:=ydz
 have HBt:Hid (Tryz.prog.built 64 []=some Rp.zero.cells.toArray):=yh Rp.yaz
 have HZ68:=yh (Rp.yao Rp.yal.prev Rp.yal.hash)
 have HZ1:=yh (Rp.yan Rp.yal.prev Rp.yal.hash)
 obtain⟨ZT,hZT⟩:=yx (Rp.zero.cells)
 rw[hZT]at hzv HBt HZ68 HZ1
 have HZT:=yh hZT
 clear hZT
 obtain⟨n,hn⟩:=yx (rs.length)
 obtain⟨nc,hnc⟩:=yx (cs.length)
 rw[hn,hnc]at hA hSi hMk hTime
 rw[hn]at h1 htm htB hlen
 rw[hnc]at h2
 have HAc:=yh hac
 have H1:=yh h1
 have H2:=yh h2
 have HAs:=yh hask
 have HAd:=yh hadd
 have HMk:=yh hMk
 have HSi:=yh hSi
 have HTi:=yh hTime
 have HTB:=yh htB
 have HA:=yh hA
 have HTM:=yh htm
 have HKK:=yh hkk
 have HRes:=yh hres
 have HNl:=yh hlen
 have dk0:decide (kk<0)=false:=decide_eq_false (by omega)
 have dk2:decide (kk>2)=false:=decide_eq_false (by omega)
 have dk2':decide (2<kk)=false:=decide_eq_false (by omega)
 clear hac h h1 h2 q1 q2 q3 hA hfit hlen' hgo hask hadd hMk hSi hTime hXR hee hXC hRC hmf hTE hn hnc hlt hkk hres hRR hbs htm htB hlen
 obtain⟨dn,hdn⟩:=yx (decide (r=0))
 have HD:=yh HA.out.down
 rw[hdn]at HD
 have HDN:=yh hdn
 clear hdn
 have m0:=(ycd (HA.out.brow (gx:=m) (T:=WT) (X:=(WS g p (.slice AL n cL) (.slice AC nc cC) rel sc brk)) (by simp))).1
 obtain⟨a0,a1,a2,a4⟩:=HAc.out _ _ (HA.out.brow (gx:=W.heap.size) (T:=AcT) (X:=ac) (by simp))
 obtain⟨_,m1,m2,m3,m6⟩:=ycd (HA.out.brow (gx:=m) (T:=WT) (X:=(WS g p (.slice AL n cL) (.slice AC nc cC) rel sc brk)) (by simp))
 go_enter Tryz.func12,Tryz.ntmps12
 go_wp2_with fail
 refine HD.out.mono ?_
 rintro _ _ ⟨rfl,rfl⟩
 clear HD m0
 go_upto_region 7 with fail
 obtain⟨W1,hW1⟩:=yx (W.alloc (.cells ac.toArray AcT))
 rw[hW1]at HA a0 a1 a2 a4 m1 m2 m3 m6
 simp only[hW1]
 clear hW1
 generalize W.heap.size=ga at *
 go_upto_if 40 with fail
 go_cut [40] (fun s40 wx=>s40=.bool true∧wx=W1)
 case first=>
  as_aux_lemma=>
   rcases HKK.out with rfl|rfl
   · go_wp2_with fail
     go_meet
     case rel=>exact⟨rfl,rfl⟩
   · go_wp2_with fail
     go_meet
     case rel=>exact⟨rfl,rfl⟩
 case rest=>
  obtain⟨rfl,hwc⟩:=hcut
  rw[hwc]
  clear hwc
  go_upto_region 10 with fail
  go_cut [60] (fun s60 wc=>s60=.bool (decide (0<n∧0≤nn∧nn<1000))∧wc=W1)
  case first=>
   as_aux_lemma=>
    by_cases x1:0<n
    · have y1:decide ((n:Int)>0)=true:=decide_eq_true (by omega)
      have z1:decide (0<n)=true:=decide_eq_true x1
      by_cases x2:0≤nn
      · have y2:decide (nn≥0)=true:=decide_eq_true x2
        have z2:decide (0≤nn)=true:=decide_eq_true x2
        by_cases x3:nn<1000
        · have y3:decide (nn<1000)=true:=decide_eq_true x3
          have e:decide (0<n∧0≤nn∧nn<1000)=true:=decide_eq_true ⟨x1,x2,x3⟩
          clear x1 x2 x3
          go_wp2_with fail
          go_meet
          case rel=>exact⟨by rw[e],rfl⟩
        · have y3:decide (nn<1000)=false:=decide_eq_false x3
          have e:decide (0<n∧0≤nn∧nn<1000)=false:=decide_eq_false (fun q=>x3 q.2.2)
          clear x1 x2 x3
          go_wp2_with fail
          go_meet
          case rel=>exact⟨by rw[e],rfl⟩
      · have y2:decide (nn≥0)=false:=decide_eq_false x2
        have z2:decide (0≤nn)=false:=decide_eq_false x2
        have e:decide (0<n∧0≤nn∧nn<1000)=false:=decide_eq_false (fun q=>x2 q.2.1)
        clear x1 x2
        go_wp2_with fail
        go_meet
        case rel=>exact⟨by rw[e],rfl⟩
    · have y1:decide ((n:Int)>0)=false:=decide_eq_false (by omega)
      have z1:decide (0<n)=false:=decide_eq_false x1
      have e:decide (0<n∧0≤nn∧nn<1000)=false:=decide_eq_false (fun q=>x1 q.1)
      clear x1
      go_wp2_with fail
      go_meet
      case rel=>exact⟨by rw[e],rfl⟩
  case rest=>
   obtain⟨rfl,hwc⟩:=hcut
   rw[hwc]
   clear hwc
   obtain⟨tb,htb⟩:=yx (decide (0<n∧0≤nn∧nn<1000))
   rw[htb]
   go_upto_if 60 with fail
   go_cut [8] (fun s8 wx=>s8=.int .i64 tm∧St w0 wx p g l r j rs cs rel brk ((ga,AcT,ac)::(m,WT,(WS g p (.slice AL n cL) (.slice AC nc cC) rel sc brk))::(xr++yr)))
   case first=>
    as_aux_lemma=>
     cases tb
     · have e:=HTM.out
       rw[if_neg (of_decide_eq_false htb)]at e
       have HE:=yh e
       clear htb e
       go_wp2_with fail
       go_meet
       case rel=>exact⟨by rw[HE.out],HA.out⟩
     · have e:=HTM.out
       have ht:=of_decide_eq_true htb
       rw[if_pos ht]at e
       have HE:=yh e
       have HDx:=yh (HA.out.below (Below.refl _ _).drew)
       obtain⟨gL,oL,rfl,hc⟩:=HTi.out _ _ HDx.out (fun x hx=>List.mem_cons_of_mem _ hx) ht.1
       have hH11:=And.intro ((ycd (HDx.out.brow (gx:=m) (T:=WT) (X:=(WS g p (.slice (some ⟨gL,oL,none⟩) n cL) (.slice AC nc cC) rel sc brk)) (by simp))).2.2.1) (And.intro (HAc.out _ _ (HDx.out.brow (gx:=ga) (T:=AcT) (X:=ac) (by simp))).2.2.1 hc)
       obtain⟨k,hk⟩:=yx (n-1)
       rw[hk]at hH11
       have e9:IntKind.i64.wrap ((n:Int)-1)=(k:Int):=by rw[IntWalk.i64_in _ (by have:=HNl.out;omega)];omega
       have e15:IntKind.i64.wrap (lt+nn)=lt+nn:=IntWalk.i64_in _ (by have:=HTB.out ht.1;omega)
       have hkn:(k:Int)<(n:Int):=by omega
       have hk0:(0:Int)≤(k:Int):=by omega
       clear htb ht e hc hk a0 a1 a2 a4 m1 m2 m3 m6
       go_wp2_with fail
       refine wp_region_held_drew (S:=fun w'=>w'.cell? ⟨m,2,none⟩=some (.slice (some ⟨gL,oL,none⟩) n cL)∧w'.cell? ⟨ga,2,none⟩=some (.int .i64 nn)∧w'.cell? ⟨gL,oL+k*68+2,none⟩=some (.int .i64 lt)) (by kernel_rfl) (hH11) (fun gH=>?_)
       generalize W1.drew=wq at *
       refine yg 0 (.pointer (some ⟨m,0,none⟩)) rfl gH ?_
       refine yg 1 (.pointer (some ⟨m,0,none⟩)) rfl gH ?_
       refine yg 2 (.pointer (some ⟨m,2,none⟩)) rfl gH ?_
       simp only[Act.put,Ya,Yb,Yc,Yd,Ye,Yf]
       refine yk 3 (.slice (some ⟨gL,oL,none⟩) n cL) rfl (fun w' hSw=>by have hq:=hSw;have hd:=hq.1;go_simp) gH ?_
       refine yg 4 (.pointer (some ⟨m,0,none⟩)) rfl gH ?_
       refine yg 5 (.pointer (some ⟨m,0,none⟩)) rfl gH ?_
       simp only[Act.put,Ya,Yb,Yc,Yd,Ye,Yf]
       refine yg 6 (.pointer (some ⟨m,2,none⟩)) rfl gH ?_
       refine yk 7 (.slice (some ⟨gL,oL,none⟩) n cL) rfl (fun w' hSw=>by have hq:=hSw;have hd:=hq.1;go_simp) gH ?_
       refine yg 8 (.int .i64 n) rfl gH ?_
       simp only[Act.put,Ya,Yb,Yc,Yd,Ye,Yf]
       refine yg 9 (.int .i64 k) rfl gH ?_
       refine yg 10 (.pointer (some ⟨gL,oL+k*68,none⟩)) rfl gH ?_
       refine yg 11 (.pointer (some ⟨gL,oL+k*68+2,none⟩)) rfl gH ?_
       simp only[Act.put,Ya,Yb,Yc,Yd,Ye,Yf]
       refine yk 12 (.int .i64 lt) rfl (fun w' hSw=>by have hq:=hSw;have hd:=hq.2.2;go_simp) gH ?_
       refine yg 13 (.pointer (some ⟨ga,2,none⟩)) rfl gH ?_
       refine yk 14 (.int .i64 nn) rfl (fun w' hSw=>by have hq:=hSw;have hd:=hq.2.1;go_simp) gH ?_
       simp only[Act.put,Ya,Yb,Yc,Yd,Ye,Yf]
       refine yg 15 (.int .i64 (lt+nn)) rfl gH ?_
       refine yg 16 (.int .i64 (lt+nn)) rfl gH ?_
       refine wpAnyH_done (by kernel_rfl) ?_ _
       clear gH
       go_wp2_with fail
       go_meet
       case rel=>exact⟨by rw[HE.out],HDx.out⟩
   case rest=>
    obtain⟨rfl,hd⟩:=hcut
    have HDx:=yh (hd.below (Below.refl _ _).drew)
    clear htb hd HA a0 a1 a2 a4 m1 m2 m3 m6 HTi HTM HTB
    have HF:Hid (∀W':World,Row W' m WT (WS g p (.slice AL n cL) (.slice AC nc cC) rel sc brk)→Row W' ga AcT ac→(W'.cell? ⟨m,1,none⟩=some (.pointer (some ⟨p,0,none⟩))∧W'.cell? ⟨m,2,none⟩=some (.slice AL n cL)∧W'.cell? ⟨ga,1,none⟩=some (.int .i64 mk)∧W'.cell? ⟨ga,4,none⟩=some (.string body))):=yh (fun W' hx hy=>⟨(ycd hx).2.1,(ycd hx).2.2.1,(HAc.out _ _ hy).2.1,(HAc.out _ _ hy).2.2.2⟩)
    go_upto_region 12 with fail
    go_cut [9,10] (fun s9 s10 wx2 =>∃g9,s9=.pointer (some ⟨g9,0,none⟩)∧s10=.int .i64 ee∧St w0 wx2 p g l r j rs cs rel brk ((g9,RpT,XC)::(ga,AcT,ac)::(m,WT,(WS g p (.slice AL n cL) (.slice AC nc cC) rel sc brk))::(xr++yr))∧(Value.slice AL n cL).ownBlock≠some g9)
    case first=>
     as_aux_lemma=>
      go_wp2_with fail
      refine wp_region_held_drew (S:=fun w'=>w'.cell? ⟨m,1,none⟩=some (.pointer (some ⟨p,0,none⟩))∧w'.cell? ⟨m,2,none⟩=some (.slice AL n cL)∧w'.cell? ⟨ga,1,none⟩=some (.int .i64 mk)∧w'.cell? ⟨ga,4,none⟩=some (.string body)) (by kernel_rfl) (HF.out _ (HDx.out.brow (gx:=m) (T:=WT) (by simp)) (HDx.out.brow (gx:=ga) (T:=AcT) (by simp))) (fun gH=>?_)
      generalize wc.drew=wq at *
      refine yg 0 (.pointer (some ⟨m,0,none⟩)) rfl gH ?_
      simp only[Act.put,Ya,Yb,Yc,Yd,Ye,Yf]
      refine yg 1 (.pointer (some ⟨m,0,none⟩)) rfl gH ?_
      refine yg 2 (.pointer (some ⟨m,2,none⟩)) rfl gH ?_
      refine yk 3 (.slice AL n cL) rfl (fun w' hSw=>by have hq:=hSw;have hd:=hq.2.1;go_simp) gH ?_
      simp only[Act.put,Ya,Yb,Yc,Yd,Ye,Yf]
      refine yg 4 (.pointer (some ⟨ga,1,none⟩)) rfl gH ?_
      refine yk 5 (.int .i64 mk) rfl (fun w' hSw=>by have hq:=hSw;have hd:=hq.2.2.1;go_simp) gH ?_
      refine yg 6 (.pointer (some ⟨ga,4,none⟩)) rfl gH ?_
      simp only[Act.put,Ya,Yb,Yc,Yd,Ye,Yf]
      refine yk 7 (.string body) rfl (fun w' hSw=>by have hq:=hSw;have hd:=hq.2.2.2;go_simp) gH ?_
      refine yg 8 (.int .i64 tm) rfl gH ?_
      refine yS 9 13 (by kernel_rfl) rfl rfl (fun K1 hK1=>?_) (fun K1 hK1=>?_)
      · skip
        try simp only[Act.put,Ya,Yb,Yc,Yd,Ye,Yf]
        go_simp
        refine Calls.mono (HMk.out _ _ HDx.out (fun x hx=>by first|exact List.mem_cons_of_mem _ hx|exact List.mem_cons_of_mem _ (List.mem_cons_of_mem _ hx)|exact List.mem_cons_of_mem _ (List.mem_cons_of_mem _ (List.mem_cons_of_mem _ hx))|exact List.mem_cons_of_mem _ (List.mem_cons_of_mem _ (List.mem_cons_of_mem _ (List.mem_cons_of_mem _ hx))))) ?_
        rintro e wc1 ⟨rfl,hsx⟩
        have HDx:=yh (HDx.out.below hsx)
        have eH:=HF.out _ (HDx.out.brow (gx:=m) (T:=WT) (by simp)) (HDx.out.brow (gx:=ga) (T:=AcT) (by simp))
        clear hsx
        refine hK1.out _ _ eH (fun gH=>?_)
        clear hK1 K1
        clear eH
        refine yg 10 (.tuple #[.agg XC.toArray,.int .i64 ee]) rfl gH ?_
        refine yg 11 (.agg XC.toArray) rfl gH ?_
        simp only[Act.put,Ya,Yb,Yc,Yd,Ye,Yf]
        refine yg 12 (.int .i64 ee) rfl gH ?_
        refine yR 13 (by kernel_rfl) rfl (fun K1 hK1=>?_)
        try simp only[Act.put,Ya,Yb,Yc,Yd,Ye,Yf]
        go_simp
        obtain⟨gb3,gb3e⟩ :∃gb3,gb3=wc1.heap.size:=⟨_,rfl⟩
        have HFr:=yh HDx.out.fresh
        have HDx:=yh (HDx.out.alloc RpT ZT)
        have HN9:Hid ((Value.slice AL n cL).ownBlock≠some gb3):=yh (fun e=>by obtain⟨x,hx,e2⟩:=H1.out.key _ e;exact HFr.out x (by simp[hx]) (e2.trans gb3e))
        have eH:=HF.out _ (HDx.out.brow (gx:=m) (T:=WT) (by simp)) (HDx.out.brow (gx:=ga) (T:=AcT) (by simp))
        generalize wc1.alloc (.cells ZT.toArray RpT)=wa2 at *
        rw[←gb3e]at HDx HFr ⊢
        refine hK1.out _ _ eH (fun gH=>?_)
        clear hK1 K1
        clear eH gb3e
        refine yR 14 (by kernel_rfl) rfl (fun K1 hK1=>?_)
        try simp only[Act.put,Ya,Yb,Yc,Yd,Ye,Yf]
        rw[if_pos (by rfl)]
        refine yar RpT (.tmp 9) (.tmp 88) rfl gb3 0 XC _ _ rfl rfl (HDx.out.brow (gx:=gb3) (T:=RpT) (X:=ZT) List.mem_cons_self) (by have:=HZ68.out;have:=HX68.out;omega) (by rw[yaf,HX68.out]) HX1.out ?_
        intro ws4 hrS hgS
        rw[yad (HX68.out.trans HZ68.out.symm)]at hrS
        have HDx:=yh (HDx.out.write hgS hrS HFr.out)
        have eH:=HF.out _ (HDx.out.brow (gx:=m) (T:=WT) (by simp)) (HDx.out.brow (gx:=ga) (T:=AcT) (by simp))
        clear hrS hgS
        refine hK1.out _ _ eH (fun gH=>?_)
        clear hK1 K1
        clear eH
        refine yg 15 (.int .i64 ee) rfl gH ?_
        refine wpAnyH_done (by kernel_rfl) ?_ _
        clear gH
        go_wp2_with fail
        go_meet
        case rel=>exact⟨_,rfl,rfl,HDx.out,HN9.out⟩
      · skip
        try simp only[Act.put,Ya,Yb,Yc,Yd,Ye,Yf]
        go_simp
        obtain⟨gb6,gb6e⟩ :∃gb6,gb6=wq.heap.size:=⟨_,rfl⟩
        have HFr:=yh HDx.out.fresh
        have HDx:=yh (HDx.out.alloc RpT ZT)
        have HN9:Hid ((Value.slice AL n cL).ownBlock≠some gb6):=yh (fun e=>by obtain⟨x,hx,e2⟩:=H1.out.key _ e;exact HFr.out x (by simp[hx]) (e2.trans gb6e))
        have eH:=HF.out _ (HDx.out.brow (gx:=m) (T:=WT) (by simp)) (HDx.out.brow (gx:=ga) (T:=AcT) (by simp))
        generalize wq.alloc (.cells ZT.toArray RpT)=wa5 at *
        rw[←gb6e]at HDx HFr ⊢
        refine hK1.out _ _ eH (fun gH=>?_)
        clear hK1 K1
        clear eH gb6e
        refine yR 9 (by kernel_rfl) rfl (fun K1 hK1=>?_)
        try simp only[Act.put,Ya,Yb,Yc,Yd,Ye,Yf]
        go_simp
        refine Calls.mono (HMk.out _ _ HDx.out (fun x hx=>by first|exact List.mem_cons_of_mem _ hx|exact List.mem_cons_of_mem _ (List.mem_cons_of_mem _ hx)|exact List.mem_cons_of_mem _ (List.mem_cons_of_mem _ (List.mem_cons_of_mem _ hx))|exact List.mem_cons_of_mem _ (List.mem_cons_of_mem _ (List.mem_cons_of_mem _ (List.mem_cons_of_mem _ hx))))) ?_
        rintro e wc7 ⟨rfl,hsx⟩
        have HDx:=yh (HDx.out.below hsx)
        have eH:=HF.out _ (HDx.out.brow (gx:=m) (T:=WT) (by simp)) (HDx.out.brow (gx:=ga) (T:=AcT) (by simp))
        clear hsx
        refine hK1.out _ _ eH (fun gH=>?_)
        clear hK1 K1
        clear eH
        refine yg 10 (.tuple #[.agg XC.toArray,.int .i64 ee]) rfl gH ?_
        refine yg 11 (.agg XC.toArray) rfl gH ?_
        simp only[Act.put,Ya,Yb,Yc,Yd,Ye,Yf]
        refine yg 12 (.int .i64 ee) rfl gH ?_
        refine yR 14 (by kernel_rfl) rfl (fun K1 hK1=>?_)
        try simp only[Act.put,Ya,Yb,Yc,Yd,Ye,Yf]
        rw[if_pos (by rfl)]
        refine yar RpT (.tmp 9) (.tmp 88) rfl gb6 0 XC _ _ rfl rfl (HDx.out.brow (gx:=gb6) (T:=RpT) (X:=ZT) List.mem_cons_self) (by have:=HZ68.out;have:=HX68.out;omega) (by rw[yaf,HX68.out]) HX1.out ?_
        intro ws8 hrS hgS
        rw[yad (HX68.out.trans HZ68.out.symm)]at hrS
        have HDx:=yh (HDx.out.write hgS hrS HFr.out)
        have eH:=HF.out _ (HDx.out.brow (gx:=m) (T:=WT) (by simp)) (HDx.out.brow (gx:=ga) (T:=AcT) (by simp))
        clear hrS hgS
        refine hK1.out _ _ eH (fun gH=>?_)
        clear hK1 K1
        clear eH
        refine yg 15 (.int .i64 ee) rfl gH ?_
        refine wpAnyH_done (by kernel_rfl) ?_ _
        clear gH
        go_wp2_with fail
        go_meet
        case rel=>exact⟨_,rfl,rfl,HDx.out,HN9.out⟩
    case rest=>
     obtain⟨g9,rfl,rfl,hd,hn9⟩:=hcut
     have HDx:=yh (hd.below (Below.refl _ _).drew)
     have HN9:=yh hn9
     clear hd hn9
     go_upto_region 13 with fail
     go_cut [11] (fun s11 wx3=>s11=.int .i64 av∧St w0 wx3 p g l r j rs cs rel brk ((g9,RpT,XC)::(ga,AcT,ac)::(m,WT,(WS g p (.slice AL n cL) (.slice AC nc cC) rel sc brk))::(xr++yr)))
     case first=>
      as_aux_lemma=>
       go_wp2_with fail
       refine wp_region_held_drew (S:=fun w'=>w'.cell? ⟨m,1,none⟩=some (.pointer (some ⟨p,0,none⟩))∧w'.cell? ⟨m,2,none⟩=some (.slice AL n cL)∧w'.cell? ⟨ga,1,none⟩=some (.int .i64 mk)∧w'.cell? ⟨ga,4,none⟩=some (.string body)) (by kernel_rfl) (HF.out _ (HDx.out.brow (gx:=m) (T:=WT) (by simp)) (HDx.out.brow (gx:=ga) (T:=AcT) (by simp))) (fun gH=>?_)
       generalize wc.drew=wq at *
       refine yg 0 (.pointer (some ⟨m,0,none⟩)) rfl gH ?_
       simp only[Act.put,Ya,Yb,Yc,Yd,Ye,Yf]
       refine yg 1 (.pointer (some ⟨m,0,none⟩)) rfl gH ?_
       refine yg 2 (.pointer (some ⟨m,1,none⟩)) rfl gH ?_
       refine yk 3 (.pointer (some ⟨p,0,none⟩)) rfl (fun w' hSw=>by have hq:=hSw;have hd:=hq.1;go_simp) gH ?_
       simp only[Act.put,Ya,Yb,Yc,Yd,Ye,Yf]
       refine yg 4 (.pointer (some ⟨ga,1,none⟩)) rfl gH ?_
       refine yk 5 (.int .i64 mk) rfl (fun w' hSw=>by have hq:=hSw;have hd:=hq.2.2.1;go_simp) gH ?_
       refine yg 6 (.pointer (some ⟨ga,4,none⟩)) rfl gH ?_
       simp only[Act.put,Ya,Yb,Yc,Yd,Ye,Yf]
       refine yk 7 (.string body) rfl (fun w' hSw=>by have hq:=hSw;have hd:=hq.2.2.2;go_simp) gH ?_
       refine yg 8 (.int .i64 tm) rfl gH ?_
       refine yR 9 (by kernel_rfl) rfl (fun K1 hK1=>?_)
       try simp only[Act.put,Ya,Yb,Yc,Yd,Ye,Yf]
       go_simp
       refine Calls.mono (HAs.out _ _ HDx.out) ?_
       rintro e wc1 ⟨rfl,hsx⟩
       have HDx:=yh (HDx.out.below hsx)
       have eH:=HF.out _ (HDx.out.brow (gx:=m) (T:=WT) (by simp)) (HDx.out.brow (gx:=ga) (T:=AcT) (by simp))
       clear hsx
       refine hK1.out _ _ eH (fun gH=>?_)
       clear hK1 K1
       clear eH
       refine yg 10 (.int .i64 av) rfl gH ?_
       refine wpAnyH_done (by kernel_rfl) ?_ _
       clear gH
       go_wp2_with fail
       go_meet
       case rel=>exact⟨rfl,HDx.out⟩
     case rest=>
      obtain⟨rfl,hd⟩:=hcut
      have HDx:=yh (hd.below (Below.refl _ _).drew)
      clear hd
      go_upto_region 14 with fail
      go_cut [12,13] (fun s12 s13 wc =>∃g12,s12=.pointer (some ⟨g12,0,none⟩)∧s13=.int .i64 f∧St w0 wc p g l' r' j' rs' cs rel brk' ((g12,RpT,RC)::(g9,RpT,XC)::(ga,AcT,ac)::(m,WT,(WS g p (.slice AL n cL) (.slice AC nc cC) rel sc brk))::(xr++yr)))
      case first=>
       as_aux_lemma=>
        go_wp2_with fail
        refine wp_region_held_drew (S:=fun w'=>w'.cell? ⟨m,1,none⟩=some (.pointer (some ⟨p,0,none⟩))∧w'.cell? ⟨m,2,none⟩=some (.slice AL n cL)∧w'.cell? ⟨ga,1,none⟩=some (.int .i64 mk)∧w'.cell? ⟨ga,4,none⟩=some (.string body)) (by kernel_rfl) (HF.out _ (HDx.out.brow (gx:=m) (T:=WT) (by simp)) (HDx.out.brow (gx:=ga) (T:=AcT) (by simp))) (fun gH=>?_)
        generalize wc.drew=wq at *
        refine yg 0 (.pointer (some ⟨m,0,none⟩)) rfl gH ?_
        simp only[Act.put,Ya,Yb,Yc,Yd,Ye,Yf]
        refine yg 1 (.pointer (some ⟨m,0,none⟩)) rfl gH ?_
        refine yg 2 (.pointer (some ⟨m,1,none⟩)) rfl gH ?_
        refine yk 3 (.pointer (some ⟨p,0,none⟩)) rfl (fun w' hSw=>by have hq:=hSw;have hd:=hq.1;go_simp) gH ?_
        simp only[Act.put,Ya,Yb,Yc,Yd,Ye,Yf]
        refine yg 4 (.pointer (some ⟨ga,1,none⟩)) rfl gH ?_
        refine yk 5 (.int .i64 mk) rfl (fun w' hSw=>by have hq:=hSw;have hd:=hq.2.2.1;go_simp) gH ?_
        refine yg 6 (.pointer (some ⟨ga,4,none⟩)) rfl gH ?_
        simp only[Act.put,Ya,Yb,Yc,Yd,Ye,Yf]
        refine yk 7 (.string body) rfl (fun w' hSw=>by have hq:=hSw;have hd:=hq.2.2.2;go_simp) gH ?_
        refine yg 8 (.int .i64 tm) rfl gH ?_
        refine yS 9 13 (by kernel_rfl) rfl rfl (fun K1 hK1=>?_) (fun K1 hK1=>?_)
        · skip
          try simp only[Act.put,Ya,Yb,Yc,Yd,Ye,Yf]
          go_simp
          refine Calls.mono (HAd.out _ _ HDx.out) ?_
          rintro e wc1 ⟨rfl,hsx⟩
          have HDx:=yh (hsx)
          have eH:=HF.out _ (HDx.out.brow (gx:=m) (T:=WT) (by simp)) (HDx.out.brow (gx:=ga) (T:=AcT) (by simp))
          clear hsx
          refine hK1.out _ _ eH (fun gH=>?_)
          clear hK1 K1
          clear eH
          refine yg 10 (.tuple #[.agg RC.toArray,.int .i64 f]) rfl gH ?_
          refine yg 11 (.agg RC.toArray) rfl gH ?_
          simp only[Act.put,Ya,Yb,Yc,Yd,Ye,Yf]
          refine yg 12 (.int .i64 f) rfl gH ?_
          refine yR 13 (by kernel_rfl) rfl (fun K1 hK1=>?_)
          try simp only[Act.put,Ya,Yb,Yc,Yd,Ye,Yf]
          go_simp
          obtain⟨gb3,gb3e⟩ :∃gb3,gb3=wc1.heap.size:=⟨_,rfl⟩
          have HFr:=yh HDx.out.fresh
          have HDx:=yh (HDx.out.alloc RpT ZT)
          have HN9:Hid ((Value.slice AL n cL).ownBlock≠some gb3):=yh (fun e=>by obtain⟨x,hx,e2⟩:=H1.out.key _ e;exact HFr.out x (by simp[hx]) (e2.trans gb3e))
          have eH:=HF.out _ (HDx.out.brow (gx:=m) (T:=WT) (by simp)) (HDx.out.brow (gx:=ga) (T:=AcT) (by simp))
          generalize wc1.alloc (.cells ZT.toArray RpT)=wa2 at *
          rw[←gb3e]at HDx HFr ⊢
          refine hK1.out _ _ eH (fun gH=>?_)
          clear hK1 K1
          clear eH gb3e
          refine yR 14 (by kernel_rfl) rfl (fun K1 hK1=>?_)
          try simp only[Act.put,Ya,Yb,Yc,Yd,Ye,Yf]
          rw[if_pos (by rfl)]
          refine yar RpT (.tmp 12) (.tmp 111) rfl gb3 0 RC _ _ rfl rfl (HDx.out.brow (gx:=gb3) (T:=RpT) (X:=ZT) List.mem_cons_self) (by have:=HZ68.out;have:=HR68.out;omega) (by rw[yaf,HR68.out]) HR1.out ?_
          intro ws4 hrS hgS
          rw[yad (HR68.out.trans HZ68.out.symm)]at hrS
          have HDx:=yh (HDx.out.write hgS hrS HFr.out)
          have eH:=HF.out _ (HDx.out.brow (gx:=m) (T:=WT) (by simp)) (HDx.out.brow (gx:=ga) (T:=AcT) (by simp))
          clear hrS hgS
          refine hK1.out _ _ eH (fun gH=>?_)
          clear hK1 K1
          clear eH
          refine yg 15 (.int .i64 f) rfl gH ?_
          refine wpAnyH_done (by kernel_rfl) ?_ _
          clear gH
          go_wp2_with fail
          go_meet
          case rel=>exact⟨_,rfl,rfl,HDx.out⟩
        · skip
          try simp only[Act.put,Ya,Yb,Yc,Yd,Ye,Yf]
          go_simp
          obtain⟨gb6,gb6e⟩ :∃gb6,gb6=wq.heap.size:=⟨_,rfl⟩
          have HFr:=yh HDx.out.fresh
          have HDx:=yh (HDx.out.alloc RpT ZT)
          have HN9:Hid ((Value.slice AL n cL).ownBlock≠some gb6):=yh (fun e=>by obtain⟨x,hx,e2⟩:=H1.out.key _ e;exact HFr.out x (by simp[hx]) (e2.trans gb6e))
          have eH:=HF.out _ (HDx.out.brow (gx:=m) (T:=WT) (by simp)) (HDx.out.brow (gx:=ga) (T:=AcT) (by simp))
          generalize wq.alloc (.cells ZT.toArray RpT)=wa5 at *
          rw[←gb6e]at HDx HFr ⊢
          refine hK1.out _ _ eH (fun gH=>?_)
          clear hK1 K1
          clear eH gb6e
          refine yR 9 (by kernel_rfl) rfl (fun K1 hK1=>?_)
          try simp only[Act.put,Ya,Yb,Yc,Yd,Ye,Yf]
          go_simp
          refine Calls.mono (HAd.out _ _ HDx.out) ?_
          rintro e wc7 ⟨rfl,hsx⟩
          have HDx:=yh (hsx)
          have eH:=HF.out _ (HDx.out.brow (gx:=m) (T:=WT) (by simp)) (HDx.out.brow (gx:=ga) (T:=AcT) (by simp))
          clear hsx
          refine hK1.out _ _ eH (fun gH=>?_)
          clear hK1 K1
          clear eH
          refine yg 10 (.tuple #[.agg RC.toArray,.int .i64 f]) rfl gH ?_
          refine yg 11 (.agg RC.toArray) rfl gH ?_
          simp only[Act.put,Ya,Yb,Yc,Yd,Ye,Yf]
          refine yg 12 (.int .i64 f) rfl gH ?_
          refine yR 14 (by kernel_rfl) rfl (fun K1 hK1=>?_)
          try simp only[Act.put,Ya,Yb,Yc,Yd,Ye,Yf]
          rw[if_pos (by rfl)]
          refine yar RpT (.tmp 12) (.tmp 111) rfl gb6 0 RC _ _ rfl rfl (HDx.out.brow (gx:=gb6) (T:=RpT) (X:=ZT) List.mem_cons_self) (by have:=HZ68.out;have:=HR68.out;omega) (by rw[yaf,HR68.out]) HR1.out ?_
          intro ws8 hrS hgS
          rw[yad (HR68.out.trans HZ68.out.symm)]at hrS
          have HDx:=yh (HDx.out.write hgS hrS HFr.out)
          have eH:=HF.out _ (HDx.out.brow (gx:=m) (T:=WT) (by simp)) (HDx.out.brow (gx:=ga) (T:=AcT) (by simp))
          clear hrS hgS
          refine hK1.out _ _ eH (fun gH=>?_)
          clear hK1 K1
          clear eH
          refine yg 15 (.int .i64 f) rfl gH ?_
          refine wpAnyH_done (by kernel_rfl) ?_ _
          clear gH
          go_wp2_with fail
          go_meet
          case rel=>exact⟨_,rfl,rfl,HDx.out⟩
      case rest=>
       obtain⟨g12,rfl,rfl,hd⟩:=hcut
       have HDy:=yh hd
       obtain⟨_,n1,n2,n3,n6⟩:=ycd (HDy.out.brow (gx:=m) (T:=WT) (X:=(WS g p (.slice AL n cL) (.slice AC nc cC) rel sc brk)) (by simp))
       have a0:=(HAc.out _ _ (HDy.out.brow (gx:=ga) (T:=AcT) (X:=ac) (by simp))).1
       clear hd HAs HAd HMk
       rcases HRes.out with⟨e1,e2,e3,e4,e5⟩|⟨e1,e2,e3,e4,e5,e6⟩|⟨e1,e2,e3,e4,e5,e6,e7,e8⟩|⟨e1,e2,e3,e4,e5,e6,e7⟩
       · as_aux_lemma=>
          have e5:=e5.symm
          subst e5;subst e1;subst e2;subst e3;subst e4
          clear HRes HRX HDN
          go_wp2_with fail
          go_ret
          exact⟨rfl,⟨_,_,xr,yr,HDy.out.less (fun x hx=>List.mem_cons_of_mem _ (List.mem_cons_of_mem _ (List.mem_cons_of_mem _ hx))),H1.out,H2.out⟩⟩
       · as_aux_lemma=>
          have e6:=e6.symm
          have e4:=e4.symm
          have e3:=e3.symm
          subst e6;subst e5;subst e4;subst e3;subst e1
          have dee:(ee == 0)=false:=by simpa using e2
          have deep:(ee=0)=False:=by simpa using e2
          have deed:decide (ee=0)=false:=decide_eq_false e2
          clear HRes HRX HDN e2
          go_wp2_with fail
          go_ret
          exact⟨rfl,⟨_,_,xr,yr,HDy.out.less (fun x hx=>List.mem_cons_of_mem _ (List.mem_cons_of_mem _ (List.mem_cons_of_mem _ hx))),H1.out,H2.out⟩⟩
       · as_aux_lemma=>
          obtain rfl:dn=false:=by rw[←HDN.out];exact decide_eq_false e4
          have hrc:=(HRX.out e7).symm
          subst hrc;subst e8;subst e6;subst e5;subst e3;subst e2;subst e1
          clear HRes HRX HDN e4 e7
          have HTE9:=HTE.out
          go_upto_region 21 with(first
           | ((with_reducible show wpList _ _ _ (⟨_,.load 64 (.tmp 12),_,_,_,_⟩::_) _ _);refine yac rfl 64 (.tmp 12) rfl g12 0 (rfl) XC _ (yah (HDy.out.brow (gx:=g12) (T:=RpT) (X:=XC) (by simp))) Tryz.underlying64 rfl (by rw[yaf,HX68.out]) ?_)
           | ((with_reducible show wpList _ _ _ (⟨_,.load 64 (.tmp 9),_,_,_,_⟩::_) _ _);refine yac rfl 64 (.tmp 9) rfl g9 0 (rfl) XC _ (yah (HDy.out.brow (gx:=g9) (T:=RpT) (X:=XC) (by simp))) Tryz.underlying64 rfl (by rw[yaf,HX68.out]) ?_))
          clear HTE9 n1 n2 n3 n6 a0
          go_wp2_with fail
          have HDy:=yh (HDy.out.below (Below.refl _ _).drew)
          refine wp_region_held_drew (S:=fun w'=>w'.rangeAt g9 0 XC) (by kernel_rfl) (yah (HDy.out.brow (gx:=g9) (T:=RpT) (X:=XC) (by simp))) (fun gH=>?_)
          generalize wc.drew=wv at *
          refine yg 0 (.pointer (some ⟨m,0,none⟩)) rfl gH ?_
          simp only[Act.put,Ya,Yb,Yc,Yd,Ye,Yf]
          refine yg 1 (.pointer (some ⟨m,0,none⟩)) rfl gH ?_
          refine yg 2 (.pointer (some ⟨m,0,none⟩)) rfl gH ?_
          refine yg 3 (.pointer (some ⟨m,2,none⟩)) rfl gH ?_
          simp only[Act.put,Ya,Yb,Yc,Yd,Ye,Yf]
          refine' yl 5 _ rfl (yieldsIf_load_mid (by rfl) _ _ rfl g9 0 rfl XC _ (fun w' hSw=>hSw) Tryz.underlying64 rfl (by rw[yaf,HX68.out])) gH ?_
          refine yS 4 6 (by kernel_rfl) rfl rfl (fun K1 hK1=>?_) (fun K1 hK1=>?_)
          · skip
            try simp only[Act.put,Ya,Yb,Yc,Yd,Ye,Yf]
            rw[if_pos (by rfl)]
            have hcx:=(ycd (HDy.out.brow (gx:=m) (T:=WT) (X:=(WS g p (.slice AL n cL) (.slice AC nc cC) rel sc false)) (by simp))).2.2.1
            go_simp
            refine hK1.out _ _ (gH) (fun gH=>?_)
            clear hK1 K1
            clear hcx
            refine yR 6 (by kernel_rfl) rfl (fun K1 hK1=>?_)
            try simp only[Act.put,Ya,Yb,Yc,Yd,Ye,Yf]
            rw[if_pos (by rfl)]
            refine yb6 (.tmp 152) rfl XC HX68.out rfl ?_
            have hnr:=Row.new wv RpT XC
            have HDy:=yh (HDy.out.below ((Below.refl wv.heap.size wv).alloc (Nat.le_refl _) (.cells XC.toArray RpT)))
            have eH:=yah (HDy.out.brow (gx:=g9) (T:=RpT) (X:=XC) (by simp))
            generalize wv.alloc (.cells XC.toArray RpT)=wb1 at *
            generalize wv.heap.size=gb at *
            refine hK1.out _ _ eH (fun gH=>?_)
            clear hK1 K1
            clear eH
            refine yR 7 (by kernel_rfl) rfl (fun K1 hK1=>?_)
            try simp only[Act.put,Ya,Yb,Yc,Yd,Ye,Yf]
            obtain⟨q1,q2,q3⟩:=HSi.out _ _ HDy.out (fun x hx=>by first|exact List.mem_cons_of_mem _ hx|exact List.mem_cons_of_mem _ (List.mem_cons_of_mem _ hx)|exact List.mem_cons_of_mem _ (List.mem_cons_of_mem _ (List.mem_cons_of_mem _ hx))|exact List.mem_cons_of_mem _ (List.mem_cons_of_mem _ (List.mem_cons_of_mem _ (List.mem_cons_of_mem _ hx))))
            rw[if_pos (by rfl)]
            refine ydx (.tmp 151) (.tmp 153) rfl XR HXf.out gb (by rw[HXC.out];exact hnr) w0.heap.size (.slice AL n cL) rs q1 HDy.out.low.size HLl.out rfl rfl ?_
            intro u wi2 ho hcg hk
            obtain⟨A3,c3,hue,_,_⟩:=ho.form
            subst hue
            obtain⟨k9,hk9⟩:=yx ((rs ++ [XR]).length)
            rw[hk9]at ho hk ⊢
            clear hk9
            have HQ1:=yh q1
            have HQ2:=yh q2
            have HQ3:=yh q3
            have HO:=yh ho
            have HCg:=yh hcg
            have HKk:=yh hk
            have HM5:=yh (hcg.row q3 (fun e=>q1.ne_block q3 (by decide) e))
            have HG5:=yh (hcg.row (HDy.out.brow (gx:=ga) (T:=AcT) (X:=ac) (by simp)) (fun e=>q1.ne_block (HDy.out.brow (gx:=ga) (T:=AcT) (X:=ac) (by simp)) (by decide) e))
            have HG9:=yh (hcg.row (HDy.out.brow (gx:=g9) (T:=RpT) (X:=XC) (by simp)) HN9.out)
            clear q1 q2 q3 ho hcg hk
            have eH:=yah HG9.out
            refine hK1.out _ _ eH (fun gH=>?_)
            clear hK1 K1
            clear eH
            refine yg 8 (.pointer (some ⟨m,0,none⟩)) rfl gH ?_
            refine yg 9 (.pointer (some ⟨m,2,none⟩)) rfl gH ?_
            simp only[Act.put,Ya,Yb,Yc,Yd,Ye,Yf]
            refine yR 10 (by kernel_rfl) rfl (fun K1 hK1=>?_)
            try simp only[Act.put,Ya,Yb,Yc,Yd,Ye,Yf]
            rw[if_pos (by rfl)]
            refine ybc 29 (.tmp 156) (.tmp 154) rfl m 2 WT (WS g p (.slice AL n cL) (.slice AC nc cC) rel sc false) A3 k9 c3 rfl rfl HM5.out (by simp[WS]) (by kernel_rfl) ?_
            intro wt3 hr6 hg6
            have hgm:=ybz HG5.out HM5.out (by decide)
            have HG6:=yh (HG5.out.kept hg6 (fun e=>hgm (Option.some.inj e)))
            have hcm:Chg (fun k=>k=m) _ wt3:=Chg.yat hg6 (fun k hk=>by cases hk;exact .inl rfl)
            have hct:=Chg.trans (S:=fun k=>(Value.slice AL n cL).ownBlock=some k∨k=m) (HCg.out.mono (fun k hk=>.inl hk)) hcm (fun k hk=>.inl (.inr hk))
            have HSt:=yh (Sit.put (L':=rs ++ [XR]) (C':=cs) (safe':=rel) (sc':=sc) (bb':=false) (v':=.slice A3 k9 c3) (u':=.slice AC nc cC) (HDy.out.less (rows':=(m,WT,(WS g p (.slice AL n cL) (.slice AC nc cC) rel sc false))::(xr++yr)) (fun x hx=>List.mem_cons_of_mem _ (List.mem_cons_of_mem _ (List.mem_cons_of_mem _ hx)))) H1.out H2.out (hct.mono (fun k hk=>hk.elim .inl (fun e=>.inr (.inr e)))) (HO.out.chg hcm (fun k hk e=>HO.out.ne_block HM5.out (by decide) (e ▸ hk))) (HQ2.out.chg hct (fun k hk e=>e.elim (fun e=>HQ1.out.ne_own HQ2.out (by decide) k e hk) (fun e=>HQ2.out.ne_block HQ3.out (by decide) (e ▸ hk)))) HKk.out (fun k hk=>.inl hk) hr6)
            have HM6:=yh hr6
            have eH:=yah (HG9.out.kept hg6 (fun e=>(ybz HG9.out HM5.out (by decide)) (Option.some.inj e)))
            clear hr6 hg6 hgm hcm hct
            refine hK1.out _ _ eH (fun gH=>?_)
            clear hK1 K1
            clear eH
            refine wpAnyH_done (by kernel_rfl) ?_ _
            clear gH
            have n6:=HM6.out.cell 6 (by simp[WS])
            have n6:wt3.cell? ⟨m,6,none⟩=some (.bool false):=n6
            have a0:=(HAc.out _ _ HG6.out).1
            go_wp2_with fail
            go_ret
            exact⟨rfl,HSt.out⟩
          · skip
            try simp only[Act.put,Ya,Yb,Yc,Yd,Ye,Yf]
            rw[if_pos (by rfl)]
            refine yb6 (.tmp 152) rfl XC HX68.out rfl ?_
            have hnr:=Row.new wv RpT XC
            have HDy:=yh (HDy.out.below ((Below.refl wv.heap.size wv).alloc (Nat.le_refl _) (.cells XC.toArray RpT)))
            have eH:=yah (HDy.out.brow (gx:=g9) (T:=RpT) (X:=XC) (by simp))
            generalize wv.alloc (.cells XC.toArray RpT)=wb4 at *
            generalize wv.heap.size=gb at *
            refine hK1.out _ _ eH (fun gH=>?_)
            clear hK1 K1
            clear eH
            refine yR 4 (by kernel_rfl) rfl (fun K1 hK1=>?_)
            try simp only[Act.put,Ya,Yb,Yc,Yd,Ye,Yf]
            rw[if_pos (by rfl)]
            have hcx:=(ycd (HDy.out.brow (gx:=m) (T:=WT) (X:=(WS g p (.slice AL n cL) (.slice AC nc cC) rel sc false)) (by simp))).2.2.1
            go_simp
            refine hK1.out _ _ (gH) (fun gH=>?_)
            clear hK1 K1
            clear hcx
            refine yR 7 (by kernel_rfl) rfl (fun K1 hK1=>?_)
            try simp only[Act.put,Ya,Yb,Yc,Yd,Ye,Yf]
            obtain⟨q1,q2,q3⟩:=HSi.out _ _ HDy.out (fun x hx=>by first|exact List.mem_cons_of_mem _ hx|exact List.mem_cons_of_mem _ (List.mem_cons_of_mem _ hx)|exact List.mem_cons_of_mem _ (List.mem_cons_of_mem _ (List.mem_cons_of_mem _ hx))|exact List.mem_cons_of_mem _ (List.mem_cons_of_mem _ (List.mem_cons_of_mem _ (List.mem_cons_of_mem _ hx))))
            rw[if_pos (by rfl)]
            refine ydx (.tmp 151) (.tmp 153) rfl XR HXf.out gb (by rw[HXC.out];exact hnr) w0.heap.size (.slice AL n cL) rs q1 HDy.out.low.size HLl.out rfl rfl ?_
            intro u wi5 ho hcg hk
            obtain⟨A3,c3,hue,_,_⟩:=ho.form
            subst hue
            obtain⟨k9,hk9⟩:=yx ((rs ++ [XR]).length)
            rw[hk9]at ho hk ⊢
            clear hk9
            have HQ1:=yh q1
            have HQ2:=yh q2
            have HQ3:=yh q3
            have HO:=yh ho
            have HCg:=yh hcg
            have HKk:=yh hk
            have HM5:=yh (hcg.row q3 (fun e=>q1.ne_block q3 (by decide) e))
            have HG5:=yh (hcg.row (HDy.out.brow (gx:=ga) (T:=AcT) (X:=ac) (by simp)) (fun e=>q1.ne_block (HDy.out.brow (gx:=ga) (T:=AcT) (X:=ac) (by simp)) (by decide) e))
            have HG9:=yh (hcg.row (HDy.out.brow (gx:=g9) (T:=RpT) (X:=XC) (by simp)) HN9.out)
            clear q1 q2 q3 ho hcg hk
            have eH:=yah HG9.out
            refine hK1.out _ _ eH (fun gH=>?_)
            clear hK1 K1
            clear eH
            refine yg 8 (.pointer (some ⟨m,0,none⟩)) rfl gH ?_
            refine yg 9 (.pointer (some ⟨m,2,none⟩)) rfl gH ?_
            simp only[Act.put,Ya,Yb,Yc,Yd,Ye,Yf]
            refine yR 10 (by kernel_rfl) rfl (fun K1 hK1=>?_)
            try simp only[Act.put,Ya,Yb,Yc,Yd,Ye,Yf]
            rw[if_pos (by rfl)]
            refine ybc 29 (.tmp 156) (.tmp 154) rfl m 2 WT (WS g p (.slice AL n cL) (.slice AC nc cC) rel sc false) A3 k9 c3 rfl rfl HM5.out (by simp[WS]) (by kernel_rfl) ?_
            intro wt6 hr6 hg6
            have hgm:=ybz HG5.out HM5.out (by decide)
            have HG6:=yh (HG5.out.kept hg6 (fun e=>hgm (Option.some.inj e)))
            have hcm:Chg (fun k=>k=m) _ wt6:=Chg.yat hg6 (fun k hk=>by cases hk;exact .inl rfl)
            have hct:=Chg.trans (S:=fun k=>(Value.slice AL n cL).ownBlock=some k∨k=m) (HCg.out.mono (fun k hk=>.inl hk)) hcm (fun k hk=>.inl (.inr hk))
            have HSt:=yh (Sit.put (L':=rs ++ [XR]) (C':=cs) (safe':=rel) (sc':=sc) (bb':=false) (v':=.slice A3 k9 c3) (u':=.slice AC nc cC) (HDy.out.less (rows':=(m,WT,(WS g p (.slice AL n cL) (.slice AC nc cC) rel sc false))::(xr++yr)) (fun x hx=>List.mem_cons_of_mem _ (List.mem_cons_of_mem _ (List.mem_cons_of_mem _ hx)))) H1.out H2.out (hct.mono (fun k hk=>hk.elim .inl (fun e=>.inr (.inr e)))) (HO.out.chg hcm (fun k hk e=>HO.out.ne_block HM5.out (by decide) (e ▸ hk))) (HQ2.out.chg hct (fun k hk e=>e.elim (fun e=>HQ1.out.ne_own HQ2.out (by decide) k e hk) (fun e=>HQ2.out.ne_block HQ3.out (by decide) (e ▸ hk)))) HKk.out (fun k hk=>.inl hk) hr6)
            have HM6:=yh hr6
            have eH:=yah (HG9.out.kept hg6 (fun e=>(ybz HG9.out HM5.out (by decide)) (Option.some.inj e)))
            clear hr6 hg6 hgm hcm hct
            refine hK1.out _ _ eH (fun gH=>?_)
            clear hK1 K1
            clear eH
            refine wpAnyH_done (by kernel_rfl) ?_ _
            clear gH
            have n6:=HM6.out.cell 6 (by simp[WS])
            have n6:wt6.cell? ⟨m,6,none⟩=some (.bool false):=n6
            have a0:=(HAc.out _ _ HG6.out).1
            go_wp2_with fail
            go_ret
            exact⟨rfl,HSt.out⟩
       · as_aux_lemma=>
          obtain rfl:dn=true:=by rw[←HDN.out];exact decide_eq_true e4
          have e7:=e7.symm
          subst e7;subst e6;subst e5;subst e3;subst e2;subst e1
          clear HRes HRX HDN e4
          have HM:=yh (HDy.out.brow (gx:=m) (T:=WT) (X:=(WS g p (.slice AL n cL) (.slice AC nc cC) rel sc false)) (by simp))
          have HDz:=yh (HDy.out.less (rows':=(m,WT,(WS g p (.slice AL n cL) (.slice AC nc cC) rel sc false))::(xr++yr)) (fun x hx=>List.mem_cons_of_mem _ (List.mem_cons_of_mem _ (List.mem_cons_of_mem _ hx))))
          have fz:=HM.out.free 6
          have HSt:=yh (Sit.own HDz.out H1.out H2.out (Chg.yat (S:=fun k=>k=m) (yaq _ m 6 (.bool true)) (fun k hk=>by cases hk;exact .inl rfl)) (safe':=rel) (sc':=sc) (bb':=true) (HM.out.set 6 (.bool true) (by simp[WS])))
          go_wp2_with fail
          go_ret
          exact⟨rfl,HSt.out⟩
end Go.Proofs.YtalfnadejpmjnaaGreatDoor
