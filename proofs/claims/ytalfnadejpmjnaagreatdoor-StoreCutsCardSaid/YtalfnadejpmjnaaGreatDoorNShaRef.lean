/- A part. -/
import Derived.Test.YtalfnadejpmjnaaGreatDoorNStR
set_option linter.unusedVariables false
set_option linter.unusedSimpArgs false
set_option maxRecDepth 100000
set_option maxHeartbeats 25600000
namespace Go.Proofs.YtalfnadejpmjnaaGreatDoor
open Go.RowKit
theorem yny (s:ByteArray)(w:World)(hs:s.size≤140737488355000):
 Calls Tryz.prog 136 #[.string s] w fun e w'=>e=.returned (.agg (bRow (Sha.sum s.data.toList)))∧Below w.heap.size w w':=by
 have i24:(Tryz.prog.info? 62).map (·.size)=some 32:=by kernel_rfl
 have I24:=yh i24
 obtain⟨P,hP⟩ :∃P,P=Sha.pad s.data.toList:=⟨_,rfl⟩
 have hPl:=Sha.yum s.data.toList
 rw[←hP]at hPl
 have hsl:s.data.toList.length=s.size:=rfl
 have hP1:P.length%64=0:=hPl.1
 have hP2:P.length≤140737488355200:=by rw[hPl.2,hsl];omega
 have hsum:Sha.sum s.data.toList=Sha.bytes (Sha.runs Sha.start P (P.length / 64)):=by rw[hP];rfl
 have Hsum:=yh hsum
 have HP:=yh hP
 clear i24 hPl hP hsum hsl
 go_enter Tryz.func136,Tryz.ntmps136
 go_wp2_with fail
 refine yau ?_
 intro wz hwz
 have hRz:Holds wz w.heap.size (bRow []):=by rw[hwz];exact Holds.new _ _ _
 have hbz:Below w.heap.size w wz:=by rw[hwz];exact(Below.refl _ _).alloc (Nat.le_refl _) _
 clear hwz
 refine(yis s wz hs).mono ?_
 rintro e w1 ⟨v,rfl,hown,hb1⟩
 rw[←HP.out]at hown
 obtain⟨gb,cb,rfl,hgb1,hgb2,_,_,_,hcb⟩:=hown
 rw[ydo]
 have hB:Bts w1 gb P:=fun i hi=>hcb i _ (ypb P i hi)
 have hR1:Holds w1 w.heap.size (bRow []):=hRz.below hb1 hRz.lt
 have hb01:Below w.heap.size w w1:=hbz.trans (hb1.mono hbz.size)
 have HB:=yh hB
 have HR:=yh hR1
 clear hcb hB hR1 hRz hbz hb1 hgb1
 go_wp2_with fail
 have hmk:=make64
 have Hmk:=yh hmk
 clear hmk
 go_loopw [5] (fun i wr =>∃k:Nat,k≤P.length / 64∧i=.int .i64 (64*(k:Int))∧Holds wr w1.heap.size (st8 (Sha.runs Sha.start P k))∧Below w1.heap.size w1 wr) (fun i _=>P.length-(intOf i).toNat)
 case atStart=>exact⟨0,by omega,rfl,Holds.new2 rfl rfl,(Below.refl _ _).alloc (Nat.le_refl _) _⟩
 case round=>
  obtain⟨k,hk,rfl,hN,hb⟩:=hrel
  generalize wr=wo at *
  by_cases hlt:k<P.length / 64
  · have hlt2:64*(k:Int)<(P.length:Int):=by omega
    obtain⟨blk,hblk⟩ :∃blk,blk=(P.drop (64*k)).take 64:=⟨_,rfl⟩
    have HBlk:=yh hblk
    have hmk:=Hmk.out
    have hgN:=hN.lt
    have HN:=yh hN
    clear hN hblk
    go_wp2_with fail
    clear hmk
    go_loopw [7] (fun i wr =>∃t:Nat,t≤64∧i=.int .i64 t∧Holds wr wo.heap.size (wRow (Sha.words blk t))∧Below wo.heap.size wo wr) (fun i _=>64-(intOf i).toNat)
    case atStart=>exact⟨0,by omega,rfl,Holds.new _ _ _,(Below.refl _ _).alloc (Nat.le_refl _) _⟩
    case round=>
     obtain⟨t,ht,rfl,hW,hbx⟩:=hrel
     by_cases ht16:t<16
     · as_aux_lemma=>
        have hlen:=Sha.ybk blk t
        have hcell:wr.cell? ⟨wo.heap.size,t,none⟩=some (.int .u32 0):=by
         have:=hW.cell (Sha.words blk t).length
         rw[yeo _ (by omega),hlen]at this
         exact this
        have hfree:=hW.free t
        have hp4:(0:Int)≤(t:Int):=by omega
        have hp5:(t:Int)<64:=by omega
        have ht16':(t:Int)<16:=by omega
        have hb8:Below w1.heap.size w1 wr:=hb.trans (hbx.mono hb.size)
        have hBx:=HB.out.below hb8 hgb2
        have q0:=hBx (64*k+4*t) (by omega)
        have q1:=hBx (64*k+4*t+1) (by omega)
        have q2:=hBx (64*k+4*t+2) (by omega)
        have q3:=hBx (64*k+4*t+3) (by omega)
        have hwd:=yr5 P k t (by omega) ht16
        rw[←HBlk.out]at hwd
        generalize hy0:P.getD (64*k+4*t) 0=y0 at *
        generalize hy1:P.getD (64*k+4*t+1) 0=y1 at *
        generalize hy2:P.getD (64*k+4*t+2) 0=y2 at *
        generalize hy3:P.getD (64*k+4*t+3) 0=y3 at *
        have hb0:=y0.toNat_lt
        have hb1:=y1.toNat_lt
        have hb2:=y2.toNat_lt
        have hb3:=y3.toNat_lt
        have hu0:IntKind.u32.wrap (y0.toNat:Int)=(y0.toNat:Int):=u32_in _ (by omega) (by omega)
        have hu1:IntKind.u32.wrap (y1.toNat:Int)=(y1.toNat:Int):=u32_in _ (by omega) (by omega)
        have hu2:IntKind.u32.wrap (y2.toNat:Int)=(y2.toNat:Int):=u32_in _ (by omega) (by omega)
        have hu3:IntKind.u32.wrap (y3.toNat:Int)=(y3.toNat:Int):=u32_in _ (by omega) (by omega)
        have hv0:IntKind.u32.wrap ((y0.toNat:Int)*16777216)=(y0.toNat:Int)*16777216:=u32_in _ (by omega) (by omega)
        have hv1:IntKind.u32.wrap ((y1.toNat:Int)*65536)=(y1.toNat:Int)*65536:=u32_in _ (by omega) (by omega)
        have hv2:IntKind.u32.wrap ((y2.toNat:Int)*256)=(y2.toNat:Int)*256:=u32_in _ (by omega) (by omega)
        have ha1:IntKind.u32.wrap ((y0.toNat:Int)*16777216+(y1.toNat:Int)*65536)=(y0.toNat:Int)*16777216+(y1.toNat:Int)*65536:=u32_in _ (by omega) (by omega)
        have ha2:IntKind.u32.wrap ((y0.toNat:Int)*16777216+(y1.toNat:Int)*65536+(y2.toNat:Int)*256)=(y0.toNat:Int)*16777216+(y1.toNat:Int)*65536+(y2.toNat:Int)*256:=u32_in _ (by omega) (by omega)
        have ha3:IntKind.u32.wrap ((y0.toNat:Int)*16777216+(y1.toNat:Int)*65536+(y2.toNat:Int)*256+(y3.toNat:Int))=(y0.toNat:Int)*16777216+(y1.toNat:Int)*65536+(y2.toNat:Int)*256+(y3.toNat:Int):=u32_in _ (by omega) (by omega)
        clear hy0 hy1 hy2 hy3 hBx
        have hw0:IntKind.i64.wrap (4*(t:Int))=4*(t:Int):=IntWalk.i64_in _ (by omega)
        have hw1:IntKind.i64.wrap (64*(k:Int)+4*(t:Int))=64*(k:Int)+4*(t:Int):=IntWalk.i64_in _ (by omega)
        have hw2:IntKind.i64.wrap (64*(k:Int)+4*(t:Int)+1)=64*(k:Int)+4*(t:Int)+1:=IntWalk.i64_in _ (by omega)
        have hw3:IntKind.i64.wrap (64*(k:Int)+4*(t:Int)+2)=64*(k:Int)+4*(t:Int)+2:=IntWalk.i64_in _ (by omega)
        have hw4:IntKind.i64.wrap (64*(k:Int)+4*(t:Int)+3)=64*(k:Int)+4*(t:Int)+3:=IntWalk.i64_in _ (by omega)
        have hn0:(64*(k:Int)+4*(t:Int)).toNat=64*k+4*t:=by omega
        have hn1:(64*(k:Int)+4*(t:Int)+1).toNat=64*k+4*t+1:=by omega
        have hn2:(64*(k:Int)+4*(t:Int)+2).toNat=64*k+4*t+2:=by omega
        have hn3:(64*(k:Int)+4*(t:Int)+3).toNat=64*k+4*t+3:=by omega
        have hg0:(0:Int)≤64*(k:Int)+4*(t:Int):=by omega
        have hg1:(0:Int)≤64*(k:Int)+4*(t:Int)+1:=by omega
        have hg2:(0:Int)≤64*(k:Int)+4*(t:Int)+2:=by omega
        have hg3:(0:Int)≤64*(k:Int)+4*(t:Int)+3:=by omega
        have hl0:64*(k:Int)+4*(t:Int)<(P.length:Int):=by omega
        have hl1:64*(k:Int)+4*(t:Int)+1<(P.length:Int):=by omega
        have hl2:64*(k:Int)+4*(t:Int)+2<(P.length:Int):=by omega
        have hl3:64*(k:Int)+4*(t:Int)+3<(P.length:Int):=by omega
        have Hwd:=yh hwd
        have HW:=yh hW
        clear hwd hW
        go_wp2_with fail
        refine yb9 32 (by kernel_rfl) (by kernel_rfl) ?_
        intro wd hwd
        have c0:wd.cell? ⟨gb,64*k+4*t,none⟩=some (.int .u8 (y0.toNat:Int)):=by rw[hwd];exact q0
        have c1:wd.cell? ⟨gb,64*k+4*t+1,none⟩=some (.int .u8 (y1.toNat:Int)):=by rw[hwd];exact q1
        have c2:wd.cell? ⟨gb,64*k+4*t+2,none⟩=some (.int .u8 (y2.toNat:Int)):=by rw[hwd];exact q2
        have c3:wd.cell? ⟨gb,64*k+4*t+3,none⟩=some (.int .u8 (y3.toNat:Int)):=by rw[hwd];exact q3
        have d0:wd.cell? ⟨wo.heap.size,t,none⟩=some (.int .u32 0):=by rw[hwd];exact hcell
        have d1:wd.frozen? ⟨wo.heap.size,t,none⟩=false:=by rw[hwd];exact hfree
        have HW2:=yh (show Holds wd wo.heap.size (wRow (Sha.words blk t)) from by rw[hwd];exact HW.out.drew)
        have hbd:Below wo.heap.size wo wd:=by rw[hwd];exact hbx.drew
        clear hwd q0 q1 q2 q3 hcell hfree hbx hb8
        simp only[List.take_succ_cons,List.take_zero,List.drop_succ_cons,List.drop_zero]
        repeat still_step
        refine wpStill_nil ?_
        clear c0 c1 c2 c3
        go_wp2_with fail
        rw[Hwd.out]
        refine⟨⟨t+1,by omega,by go_num,?_,hbd.setCell (Nat.le_refl _) _⟩,by simp[intOf];omega⟩
        have hset:=HW2.out.set_ t (.int .u32 (Sha.word blk t:Nat))
        have hrow:=yfs (Sha.words blk t) (by omega) (Sha.word blk t)
        rw[hlen]at hrow
        rw[hrow]at hset
        rw[Sha.words,if_pos ht16]
        exact hset
     · by_cases ht64:t<64
       · as_aux_lemma=>
          have hat :∀j,1≤j→j≤16→∃X:Nat,X<4294967296∧wr.cell? ⟨wo.heap.size,t-j,none⟩=some (.int .u32 (X:Nat))∧X=(Sha.words blk t).getD (t-j) 0:=by
           intro j hj1 hj2
           have hlen:=Sha.ybk blk t
           have h:=hW.cell (t-j)
           rw[yio _ _ (by rw[hlen];omega)]at h
           refine⟨_,?_,h,rfl⟩
           have hlt2:t-j<(Sha.words blk t).length:=by rw[hlen];omega
           rw[List.getD_eq_getElem?_getD,List.getElem?_eq_getElem hlt2,Option.getD_some]
           exact Sha.ymb _ _ _ (List.getElem_mem hlt2)
          obtain⟨X,hX,cX,eX⟩:=hat 15 (by omega) (by omega)
          obtain⟨Y,hY,cY,eY⟩:=hat 2 (by omega) (by omega)
          obtain⟨A,hA,cA,eA⟩:=hat 7 (by omega) (by omega)
          obtain⟨C,hC,cC,eC⟩:=hat 16 (by omega) (by omega)
          have hnext:Sha.next (Sha.words blk t)=Sha.add (Sha.add (Sha.add (Sha.lit1 Y) A) (Sha.lit0 X)) C:=by
           unfold Sha.next
           rw[Sha.ybk,←eX,←eY,←eA,←eC]
          have Hnext:=yh hnext
          have hlen:=Sha.ybk blk t
          have hcell:wr.cell? ⟨wo.heap.size,t,none⟩=some (.int .u32 0):=by
           have:=hW.cell (Sha.words blk t).length
           rw[yeo _ (by omega),hlen]at this
           exact this
          have hfree:=hW.free t
          have Hlen:=yh hlen
          clear hat eX eY eA eC hnext hlen
          have hw15:IntKind.i64.wrap ((t:Int)-15)=(t:Int)-15:=IntWalk.i64_in _ (by omega)
          have hw2:IntKind.i64.wrap ((t:Int)-2)=(t:Int)-2:=IntWalk.i64_in _ (by omega)
          have hw7:IntKind.i64.wrap ((t:Int)-7)=(t:Int)-7:=IntWalk.i64_in _ (by omega)
          have hw16:IntKind.i64.wrap ((t:Int)-16)=(t:Int)-16:=IntWalk.i64_in _ (by omega)
          have hp15:(0:Int)≤(t:Int)-15:=by omega
          have hp2:(0:Int)≤(t:Int)-2:=by omega
          have hp7:(0:Int)≤(t:Int)-7:=by omega
          have hp16:(0:Int)≤(t:Int)-16:=by omega
          have hq15:(t:Int)-15<64:=by omega
          have hq2:(t:Int)-2<64:=by omega
          have hq7:(t:Int)-7<64:=by omega
          have hq16:(t:Int)-16<64:=by omega
          have hn15:((t:Int)-15).toNat=t-15:=by omega
          have hn2:((t:Int)-2).toNat=t-2:=by omega
          have hn7:((t:Int)-7).toNat=t-7:=by omega
          have hn16:((t:Int)-16).toNat=t-16:=by omega
          have hp:(0:Int)≤(t:Int):=by omega
          have hr15:(15:Int)≤(t:Int):=by omega
          have hr2:(2:Int)≤(t:Int):=by omega
          have hr7:(7:Int)≤(t:Int):=by omega
          have hr16:(16:Int)≤(t:Int):=by omega
          have hq:(t:Int)<64:=by omega
          have hlt16 :¬((t:Int)<16):=by omega
          have HW:=yh hW
          clear hW
          have t7 :∀W:World,Calls Tryz.prog 166 #[.int .u32 (X:Int),.int .i64 7] W fun r w'=>r=.returned (.int .u32 (Sha.rot 7 X:Nat))∧∃m,w'=W.drewN m:=fun W=>ycz X 7 W hX (by omega) (by omega)
          have t18 :∀W:World,Calls Tryz.prog 166 #[.int .u32 (X:Int),.int .i64 18] W fun r w'=>r=.returned (.int .u32 (Sha.rot 18 X:Nat))∧∃m,w'=W.drewN m:=fun W=>ycz X 18 W hX (by omega) (by omega)
          have t17 :∀W:World,Calls Tryz.prog 166 #[.int .u32 (Y:Int),.int .i64 17] W fun r w'=>r=.returned (.int .u32 (Sha.rot 17 Y:Nat))∧∃m,w'=W.drewN m:=fun W=>ycz Y 17 W hY (by omega) (by omega)
          have t19 :∀W:World,Calls Tryz.prog 166 #[.int .u32 (Y:Int),.int .i64 19] W fun r w'=>r=.returned (.int .u32 (Sha.rot 19 Y:Nat))∧∃m,w'=W.drewN m:=fun W=>ycz Y 19 W hY (by omega) (by omega)
          have T7:=yh t7
          have T18:=yh t18
          have T17:=yh t17
          have T19:=yh t19
          clear t7 t18 t17 t19
          have hx1:=xor32 (Sha.ybu 17 Y (by omega) (by omega) hY) (Sha.ybu 19 Y (by omega) (by omega) hY)
          have hx2:=ymw Y hY
          have hx3:=xor32 (Sha.ybu 7 X (by omega) (by omega) hX) (Sha.ybu 18 X (by omega) (by omega) hX)
          have hx4:=ymx X hX
          have ha1:=add32 (Sha.lit1 Y) A
          have ha2:=add32 (Sha.add (Sha.lit1 Y) A) (Sha.lit0 X)
          have ha3:=add32 (Sha.add (Sha.add (Sha.lit1 Y) A) (Sha.lit0 X)) C
          go_wp2_with fail
          go_quiet ((first
           | (with_reducible exact Calls.quiet_of (T7.out _))
           | (with_reducible exact Calls.quiet_of (T18.out _))))
          obtain⟨wq,hwq⟩ :∃wq,wq=wr.drewN nq:=⟨_,rfl⟩
          rw[←hwq]
          have cA:=(show wq.cell? ⟨wo.heap.size,t-7,none⟩=some (.int .u32 (A:Nat)) from by rw[hwq];exact cA)
          have cC:=(show wq.cell? ⟨wo.heap.size,t-16,none⟩=some (.int .u32 (C:Nat)) from by rw[hwq];exact cC)
          have cY:=(show wq.cell? ⟨wo.heap.size,t-2,none⟩=some (.int .u32 (Y:Nat)) from by rw[hwq];exact cY)
          have hcell:=(show wq.cell? ⟨wo.heap.size,t,none⟩=some (.int .u32 0) from by rw[hwq];exact hcell)
          have hfree:=(show wq.frozen? ⟨wo.heap.size,t,none⟩=false from by rw[hwq];exact hfree)
          have HW:=yh (show Holds wq _ _ from by rw[hwq];exact HW.out)
          have hbx:=(show Below wo.heap.size wo wq from by rw[hwq];exact yb5 hbx _)
          clear hwq cX
          go_wp2_with fail
          go_quiet ((first
           | (with_reducible exact Calls.quiet_of (T17.out _))
           | (with_reducible exact Calls.quiet_of (T19.out _))))
          rename_i nq1
          obtain⟨wp,hwp⟩ :∃wp,wp=wq.drewN nq:=⟨_,rfl⟩
          rw[←hwp]
          have cA:=(show wp.cell? ⟨wo.heap.size,t-7,none⟩=some (.int .u32 (A:Nat)) from by rw[hwp];exact cA)
          have cC:=(show wp.cell? ⟨wo.heap.size,t-16,none⟩=some (.int .u32 (C:Nat)) from by rw[hwp];exact cC)
          have hcell:=(show wp.cell? ⟨wo.heap.size,t,none⟩=some (.int .u32 0) from by rw[hwp];exact hcell)
          have hfree:=(show wp.frozen? ⟨wo.heap.size,t,none⟩=false from by rw[hwp];exact hfree)
          have HW:=yh (show Holds wp _ _ from by rw[hwp];exact HW.out)
          have hbx:=(show Below wo.heap.size wo wp from by rw[hwp];exact yb5 hbx _)
          clear hwp cY
          go_wp2_with fail
          refine yb9 18 (by kernel_rfl) (by kernel_rfl) ?_
          intro wd hwd
          have c1:wd.cell? ⟨wo.heap.size,t-7,none⟩=some (.int .u32 (A:Nat)):=by rw[hwd];exact cA
          have c2:wd.cell? ⟨wo.heap.size,t-16,none⟩=some (.int .u32 (C:Nat)):=by rw[hwd];exact cC
          have d0:wd.cell? ⟨wo.heap.size,t,none⟩=some (.int .u32 0):=by rw[hwd];exact hcell
          have d1:wd.frozen? ⟨wo.heap.size,t,none⟩=false:=by rw[hwd];exact hfree
          have HW2:=yh (show Holds wd wo.heap.size (wRow (Sha.words blk t)) from by rw[hwd];exact HW.out.drew)
          have hbd:Below wo.heap.size wo wd:=by rw[hwd];exact hbx.drew
          clear hwd cA cC hcell hfree hbx
          simp only[List.take_succ_cons,List.take_zero,List.drop_succ_cons,List.drop_zero]
          repeat still_step
          refine wpStill_nil ?_
          clear c1 c2
          go_wp2_with fail
          refine⟨⟨t+1,by omega,by go_num,?_,hbd.setCell (Nat.le_refl _) _⟩,by simp[intOf];omega⟩
          have hset:=HW2.out.set_ t (.int .u32 (Sha.next (Sha.words blk t):Nat))
          have hrow:=yfs (Sha.words blk t) (by rw[Hlen.out];omega) (Sha.next (Sha.words blk t))
          rw[Hlen.out]at hrow
          rw[hrow]at hset
          rw[Sha.words,if_neg ht16]
          rw[Hnext.out]at hset
          rw[Hnext.out]
          exact hset
       · have e64:t=64:=by omega
         obtain⟨W,hWW⟩ :∃W,W=Sha.words blk 64:=⟨_,rfl⟩
         rw[e64,←hWW]at hW
         have HWW:=yh hWW
         have ht64' :¬((t:Int)<64):=by omega
         clear hWW e64 ht64 ht16 ht
         generalize wr=wp at *
         have hgN2:w1.heap.size<wo.heap.size:=hgN
         have hNp:=HN.out.below hbx hgN
         have hbp:Below w1.heap.size w1 wp:=hb.trans (hbx.mono hb.size)
         have hgWp:=hW.lt
         obtain⟨gv0,c0,wc,hrun,hE0,hgv1,hgv2,hbc⟩:=yti wp w1.heap.size (Sha.runs Sha.start P k) hNp
         have hgv3:w1.heap.size<gv0:=Nat.lt_of_lt_of_le hNp.lt hgv1
         have hWc:=hW.below (hbc) hgWp
         have hNc:=hNp.below hbc (Nat.lt_of_lt_of_le hgN (hbx.size))
         have hbc1:Below w1.heap.size w1 wc:=hbp.trans (hbc.mono hbp.size)
         have Hrun:=yh hrun
         have HWc:=yh hWc
         have HNc:=yh hNc
         clear hrun hWc hNc hW hNp hbc hbp hbx
         go_wp2_with (at_builtin;refine yb2 _ rfl (.tmp 128) (.tmp 129) _ _ rfl _ _ rfl rfl Hrun.out ?_)
         go_loopw [11,12] (fun v i wr =>∃(t gv c:Nat),t≤64∧i=.int .i64 t∧v=.slice (some ⟨gv,0,none⟩) 8 c∧gv<wr.heap.size∧w1.heap.size<gv∧Eight wr gv (Sha.rnds (Sha.runs Sha.start P k) W t)∧Below wc.heap.size wc wr) (fun _ i _=>64-(intOf i).toNat)
         case atStart=>exact⟨0,gv0,c0,by omega,rfl,rfl,hgv2,hgv3,hE0,Below.refl _ _⟩
         case round=>
          clear hE0 hgv1 hgv2 hgv3
          obtain⟨t,gv,c,ht,rfl,rfl,hgv,hgvN,hE,hbx⟩:=hrel
          by_cases hlt:t<64
          · skip
            obtain⟨X0,hX0⟩ :∃X0,X0=Sha.runs Sha.start P k:=⟨_,rfl⟩
            have hX0ok:X0.ok:=by rw[hX0];exact Sha.yef P Sha.yer k
            rw[←hX0]at hE
            rw[←hX0]
            have hwt:=HWc.out.below hbx HWc.out.lt
            have hgW:wo.heap.size<wr.heap.size:=hwt.lt
            have hwt:=hwt.cell t
            rw[yio W t (by rw[HWW.out,Sha.ybk];exact hlt)]at hwt
            have hok:=Sha.ylc W hX0ok t
            have HSt:Hid (Sha.rnds X0 W (t+1)=Sha.rnd (Sha.rnds X0 W t) (Sha.kk.getD t 0) (W.getD t 0)):=rfl
            rcases hst:Sha.rnds X0 W t with⟨a,b,c_,d,e,f,g,h_⟩
            rw[hst]at hok HSt hE
            obtain⟨ha,hbb,hcc,hd,he,hf,hg,hh⟩:=hok
            simp only at ha hbb hcc hd he hf hg hh
            have q0:wr.cell? ⟨gv,0,none⟩=some (.int .u32 (a:Int)):=hE 0 (by omega)
            have q1:wr.cell? ⟨gv,1,none⟩=some (.int .u32 (b:Int)):=hE 1 (by omega)
            have q2:wr.cell? ⟨gv,2,none⟩=some (.int .u32 (c_:Int)):=hE 2 (by omega)
            have q3:wr.cell? ⟨gv,3,none⟩=some (.int .u32 (d:Int)):=hE 3 (by omega)
            have q4:wr.cell? ⟨gv,4,none⟩=some (.int .u32 (e:Int)):=hE 4 (by omega)
            have q5:wr.cell? ⟨gv,5,none⟩=some (.int .u32 (f:Int)):=hE 5 (by omega)
            have q6:wr.cell? ⟨gv,6,none⟩=some (.int .u32 (g:Int)):=hE 6 (by omega)
            have q7:wr.cell? ⟨gv,7,none⟩=some (.int .u32 (h_:Int)):=hE 7 (by omega)
            clear hE hst hX0
            have c20 :∀W':World,Calls Tryz.prog 168 #[.int .i64 (t:Int)] W' fun r w'=>r=.returned (.int .u32 (Sha.kk.getD t 0:Nat))∧Below W'.heap.size W' w':=fun W'=>yr6 t W' hlt
            have t20 :∀W':World,Calls Tryz.prog 167 #[.int .u32 (e:Int),.int .i64 6,.int .i64 11,.int .i64 25] W' fun r w'=>r=.returned (.int .u32 (Sha.big1 e:Nat))∧Below W'.heap.size W' w':=fun W'=>
             (yjp e 6 11 25 W' he (by omega) (by omega) (by omega) (by omega) (by omega) (by omega)).mono fun r w' ⟨h1,m,h2⟩=>⟨h1,by rw[h2];exact yb5 (Below.refl _ _) m⟩
            have t21 :∀W':World,Calls Tryz.prog 167 #[.int .u32 (a:Int),.int .i64 2,.int .i64 13,.int .i64 22] W' fun r w'=>r=.returned (.int .u32 (Sha.big0 a:Nat))∧∃m,w'=W'.drewN m:=fun W'=>
             yjp a 2 13 22 W' ha (by omega) (by omega) (by omega) (by omega) (by omega) (by omega)
            generalize Sha.kk.getD t 0=K at *
            generalize W.getD t 0=V at *
            have C20:=yh c20
            have T20:=yh t20
            have T21:=yh t21
            have HX0:=yh hX0ok
            clear c20 t20 t21 hX0ok
            have hp:(0:Int)≤(t:Int):=by omega
            have hq:(t:Int)<64:=by omega
            have ha1:=add32 h_ (Sha.big1 e)
            have hand:=and32 he hf
            have hnot:=not32 e he
            have hnand:=and32 (show 4294967295-e<4294967296 by omega) hg
            have hch:bits .xor .u32 ((e &&& f:Nat):Int) (((4294967295-e) &&& g:Nat):Int)=((Sha.ch e f g:Nat):Int):=xor32 (Sha.yc5 he) (Sha.yc5 (by omega))
            have ha2:=add32 (Sha.add h_ (Sha.big1 e)) (Sha.ch e f g)
            have ha3:=add32 (Sha.add (Sha.add h_ (Sha.big1 e)) (Sha.ch e f g)) K
            have ha4:=add32 (Sha.add (Sha.add (Sha.add h_ (Sha.big1 e)) (Sha.ch e f g)) K) V
            have hS0:Below wr.heap.size wr wr.drew∧wr.drew.cell? ⟨gv,7,none⟩=some (.int .u32 (h_:Int))∧wr.drew.cell? ⟨gv,4,none⟩=some (.int .u32 (e:Int))∧wr.drew.cell? ⟨gv,5,none⟩=some (.int .u32 (f:Int))∧wr.drew.cell? ⟨gv,6,none⟩=some (.int .u32 (g:Int))∧wr.drew.cell? ⟨wo.heap.size,t,none⟩=some (.int .u32 (V:Int)):=
             ⟨(Below.refl _ _).drew,q7,q4,q5,q6,hwt⟩
            go_wp2_with fail
            go_region_held3 (fun w'=>Below wr.heap.size wr w'∧w'.cell? ⟨gv,7,none⟩=some (.int .u32 (h_:Int))∧w'.cell? ⟨gv,4,none⟩=some (.int .u32 (e:Int))∧w'.cell? ⟨gv,5,none⟩=some (.int .u32 (f:Int))∧w'.cell? ⟨gv,6,none⟩=some (.int .u32 (g:Int))∧w'.cell? ⟨wo.heap.size,t,none⟩=some (.int .u32 (V:Int)))
             (first|assumption|exact hS0|(exact ykk (by assumption) hgv hgW (by assumption)))
             (first
              | (go_at_call 167;with_reducible refine Calls.mono (T20.out _) ?_;rintro e w' ⟨rfl,hb'⟩)
              | (go_at_call 168;with_reducible refine Calls.mono (C20.out _) ?_;rintro e w' ⟨rfl,hb'⟩))
            obtain⟨hb20,_⟩:=ykk (w':=w') (Below.refl _ _) hgv hgW (by assumption)
            have p0:=(hb20.cell (p:=⟨gv,0,none⟩) hgv).trans q0
            have p1:=(hb20.cell (p:=⟨gv,1,none⟩) hgv).trans q1
            have p2:=(hb20.cell (p:=⟨gv,2,none⟩) hgv).trans q2
            have p3:=(hb20.cell (p:=⟨gv,3,none⟩) hgv).trans q3
            have p4:=(hb20.cell (p:=⟨gv,4,none⟩) hgv).trans q4
            have p5:=(hb20.cell (p:=⟨gv,5,none⟩) hgv).trans q5
            have p6:=(hb20.cell (p:=⟨gv,6,none⟩) hgv).trans q6
            have hgv':gv<w'.heap.size:=Nat.lt_of_lt_of_le hgv hb20.size
            have hb21:Below wc.heap.size wc w':=hbx.trans (hb20.mono hbx.size)
            generalize w'=w8 at *
            clear ha1 ha2 ha3 ha4 hand hnot hnand hch q0 q1 q2 q3 q4 q5 q6 q7 hwt hS0 hb20
            generalize hXX:Sha.add (Sha.add (Sha.add (Sha.add h_ (Sha.big1 e)) (Sha.ch e f g)) K) V=XX at *
            have HXX:=yh hXX
            clear hXX
            have hy3:=and32 ha hbb
            have hy4:=and32 ha hcc
            have hy5:=and32 hbb hcc
            have hy6:=xor32 (Sha.yc5 (b:=b) ha) (Sha.yc5 (b:=c_) ha)
            have hy7:bits .xor .u32 (((a &&& b) ^^^ (a &&& c_):Nat):Int) ((b &&& c_:Nat):Int)=((Sha.maj a b c_:Nat):Int):=xor32 (Sha.ydc (Sha.yc5 ha) (Sha.yc5 ha)) (Sha.yc5 hbb)
            have hy8:=add32 (Sha.big0 a) (Sha.maj a b c_)
            have hy9:=add32 d XX
            have hy10:=add32 XX (Sha.add (Sha.big0 a) (Sha.maj a b c_))
            go_wp2_with fail
            go_quiet ((with_reducible exact Calls.quiet_of (T21.out _)))
            obtain⟨wq,hwq⟩ :∃wq,wq=w8.drewN nq:=⟨_,rfl⟩
            rw[←hwq]
            have p0:=(show wq.cell? ⟨gv,0,none⟩=some (.int .u32 (a:Int)) from by rw[hwq];exact p0)
            have p1:=(show wq.cell? ⟨gv,1,none⟩=some (.int .u32 (b:Int)) from by rw[hwq];exact p1)
            have p2:=(show wq.cell? ⟨gv,2,none⟩=some (.int .u32 (c_:Int)) from by rw[hwq];exact p2)
            have p3:=(show wq.cell? ⟨gv,3,none⟩=some (.int .u32 (d:Int)) from by rw[hwq];exact p3)
            have p4:=(show wq.cell? ⟨gv,4,none⟩=some (.int .u32 (e:Int)) from by rw[hwq];exact p4)
            have p5:=(show wq.cell? ⟨gv,5,none⟩=some (.int .u32 (f:Int)) from by rw[hwq];exact p5)
            have p6:=(show wq.cell? ⟨gv,6,none⟩=some (.int .u32 (g:Int)) from by rw[hwq];exact p6)
            have hb22:Below wc.heap.size wc wq:=by rw[hwq];exact yb5 hb21 _
            have hgq:w1.heap.size<wq.heap.size:=by rw[hwq];exact Nat.lt_trans hgvN hgv'
            clear hwq hb21
            go_wp2_with fail
            refine yb9 26 (by kernel_rfl) (by kernel_rfl) ?_
            intro wd hwd
            have p0:=(show wd.cell? ⟨gv,0,none⟩=some (.int .u32 (a:Int)) from by rw[hwd];exact p0)
            have p1:=(show wd.cell? ⟨gv,1,none⟩=some (.int .u32 (b:Int)) from by rw[hwd];exact p1)
            have p2:=(show wd.cell? ⟨gv,2,none⟩=some (.int .u32 (c_:Int)) from by rw[hwd];exact p2)
            have p3:=(show wd.cell? ⟨gv,3,none⟩=some (.int .u32 (d:Int)) from by rw[hwd];exact p3)
            have p4:=(show wd.cell? ⟨gv,4,none⟩=some (.int .u32 (e:Int)) from by rw[hwd];exact p4)
            have p5:=(show wd.cell? ⟨gv,5,none⟩=some (.int .u32 (f:Int)) from by rw[hwd];exact p5)
            have p6:=(show wd.cell? ⟨gv,6,none⟩=some (.int .u32 (g:Int)) from by rw[hwd];exact p6)
            have hb23:Below wc.heap.size wc wd:=by rw[hwd];exact hb22.drew
            have hgd:w1.heap.size<wd.heap.size:=by rw[hwd];exact hgq
            clear hwd hb22
            simp only[List.take_succ_cons,List.take_zero,List.drop_succ_cons,List.drop_zero]
            repeat still_step
            refine wpStill_nil ?_
            clear p0 p1 p2 p3 p4 p5 p6 hy3 hy4 hy5 hy6 hy7 hy8 hy9 hy10
            go_wp2_with fail
            refine⟨⟨t+1,wd.heap.size,8,by omega,by go_num,rfl,by simp,hgd,?_,hb23.alloc hb23.size _⟩,by simp[intOf];omega⟩
            have hst:Sha.rnds X0 W (t+1)=⟨Sha.add XX (Sha.add (Sha.big0 a) (Sha.maj a b c_)),a,b,c_,Sha.add d XX,e,f,g⟩:=by
             rw[HSt.out];simp only[Sha.rnd,HXX.out]
            rw[hst]
            exact fun i hi=>(Holds.new _ _ _).cell i
          · as_aux_lemma=>
             have e64:t=64:=by omega
             rw[e64]at hE
             have ht64c :¬((t:Int)<64):=by omega
             clear e64 ht
             obtain⟨X0,hX0⟩ :∃X0,X0=Sha.runs Sha.start P k:=⟨_,rfl⟩
             have hstep:Sha.runs Sha.start P (k+1)=Sha.plus X0 (Sha.rnds X0 W 64):=by
              simp only[Sha.runs,Sha.step]
              rw[←hX0,←HBlk.out,←HWW.out]
             rw[←hX0]at hE HNc
             have hNr:=HNc.out.below hbx HNc.out.lt
             have hb8:Below w1.heap.size w1 wr:=hbc1.trans (hbx.mono hbc1.size)
             obtain⟨V8,hV8⟩ :∃V8,V8=Sha.rnds X0 W 64:=⟨_,rfl⟩
             rw[←hV8]at hE hstep
             have HStep:=yh hstep
             have HE:=yh hE
             have HNr:=yh hNr
             clear hX0 hV8 hstep hE hNr hlt
             go_wp2_with fail
             generalize wr=wy at *
             go_loopw [15] (fun i wr =>∃j:Nat,j≤8∧i=.int .i64 j∧Holds wr w1.heap.size (st8 (part X0 V8 j))∧Eight wr gv V8∧Below w1.heap.size w1 wr) (fun i _=>8-(intOf i).toNat)
             case atStart=>exact⟨0,by omega,rfl,HNr.out,HE.out,hb8⟩
             case round=>
              clear HNr HE hb8
              obtain⟨j,hj,rfl,hN,hE,hbx⟩:=hrel
              by_cases hlt:j<8
              · have q1:wr.cell? ⟨w1.heap.size,j,none⟩=some (.int .u32 (Sha.at_ X0 j:Nat)):=(hN.cell j).trans (yul X0 V8 j hlt)
                have q2:wr.cell? ⟨gv,j,none⟩=some (.int .u32 (Sha.at_ V8 j:Nat)):=(hE j hlt).trans (ypn V8 j hlt)
                have hfree:=hN.free j
                have hp0:(0:Int)≤(j:Int):=by omega
                have hp1:(j:Int)<8:=by omega
                have ha:=add32 (Sha.at_ X0 j) (Sha.at_ V8 j)
                have HN2:=yh hN
                have HE:=yh hE
                clear hN hE
                go_wp2_with fail
                refine yb9 12 (by kernel_rfl) (by kernel_rfl) ?_
                intro wd hwd
                have c1:wd.cell? ⟨w1.heap.size,j,none⟩=some (.int .u32 (Sha.at_ X0 j:Nat)):=by rw[hwd];exact q1
                have c2:wd.cell? ⟨gv,j,none⟩=some (.int .u32 (Sha.at_ V8 j:Nat)):=by rw[hwd];exact q2
                have d1:wd.frozen? ⟨w1.heap.size,j,none⟩=false:=by rw[hwd];exact hfree
                have HN3:=yh (show Holds wd w1.heap.size (st8 (part X0 V8 j)) from by rw[hwd];exact HN2.out.drew)
                have HE3:=yh (show Eight wd gv V8 from by rw[hwd];exact HE.out)
                have hbd:Below w1.heap.size w1 wd:=by rw[hwd];exact hbx.drew
                clear hwd q1 q2 hfree hbx
                simp only[List.take_succ_cons,List.take_zero,List.drop_succ_cons,List.drop_zero]
                repeat still_step
                refine wpStill_nil ?_
                clear c2
                go_wp2_with fail
                refine⟨⟨j+1,by omega,by go_num,?_,HE3.out.far (by show gv≠w1.heap.size;omega) _,hbd.setCell (Nat.le_refl _) _⟩,by simp[intOf];omega⟩
                have hset:=HN3.out.set_ j (.int .u32 (Sha.add (Sha.at_ X0 j) (Sha.at_ V8 j):Nat))
                rw[ys1 X0 V8 j hlt]at hset
                exact hset
              · have e8:j=8:=by omega
                subst e8
                have HN2:=yh hN
                clear hN hE
                go_wp2_with fail
                refine⟨⟨k+1,by omega,by go_num,?_,hbx⟩,by simp[intOf];omega⟩
                rw[HStep.out,←part_8]
                exact HN2.out
  · as_aux_lemma=>
     have hlt2 :¬(64*(k:Int)<(P.length:Int)):=by omega
     have ek:k=P.length / 64:=by omega
     have hok:=Sha.yef P Sha.yer k
     rw[ek]at hN hok
     have hsum2:=Hsum.out
     obtain⟨X,hX⟩ :∃X,X=Sha.runs Sha.start P (P.length / 64):=⟨_,rfl⟩
     rw[←hX]at hN hok hsum2
     have HX:=yh hsum2
     have HN:=yh hN
     have hgN:=hN.lt
     have hR0:=HR.out.below hb HR.out.lt
     have hgR:=hR0.lt
     have HR0:=yh hR0
     have hb0:Below w.heap.size w wo:=hb01.trans (hb.mono hb01.size)
     have Hok:=yh hok
     clear hX hN ek hR0 hsum2 hlt hk hok
     go_wp2_with (refine yai rfl 62 (.tmp 16) (.tmp 239) rfl wo.heap.size (bRow []) rfl rfl _ (Holds.new2 rfl rfl) I24.out rfl (ya1 _) ?_;intro w5 hw5;have Hw5:=yh hw5;clear hw5)
     have hS5:Holds w5 w1.heap.size (st8 X):=by rw[Hw5.out];exact(HN.out.alloc _).rowFar (by omega) _
     have hR5:Holds w5 w.heap.size (bRow []):=by rw[Hw5.out];exact(HR0.out.alloc _).rowFar (by omega) _
     have hO5:Holds w5 wo.heap.size (bRow []):=by rw[Hw5.out];exact(Holds.new _ _ _).row _
     have hb5:Below w.heap.size w w5:=by rw[Hw5.out];exact below_setRow (hb0.alloc hb0.size _) hb0.size _
     have hbo:=hb0.size
     clear Hw5 hb0
     go_loopw [17] (fun i wr =>∃t:Nat,t≤32∧i=.int .i64 t∧Holds wr w1.heap.size (st8 X)∧Holds wr w.heap.size (bRow [])∧Holds wr wo.heap.size (bRow (firsts X t))∧Below w.heap.size w wr) (fun i _=>32-(intOf i).toNat)
     case atStart=>exact⟨0,by omega,rfl,hS5,hR5,hO5,hb5⟩
     case round=>
      clear hS5 hR5 hO5 hb5
      obtain⟨t,ht,rfl,hS,hR,hO,hbx⟩:=hrel
      by_cases hlt:t<32
      · have hx:=hS.cell (t / 4)
        rw[ypn X (t / 4) (by omega)]at hx
        have hlt32:=at_lt Hok.out (t / 4)
        have hcell:wr.cell? ⟨wo.heap.size,t,none⟩=some (.int .u8 0):=by
         have:=hO.cell (firsts X t).length
         rw[yhi _ (by rw[yb0];exact hlt),yb0]at this
         exact this
        have hfree:=hO.free t
        have hp0:(t:Int) / 4<8:=by omega
        have hp1:(0:Int)≤(t:Int) / 4:=by omega
        have HS:=yh hS
        have HR:=yh hR
        have HO:=yh hO
        clear hS hR hO
        go_wp2_with fail
        have hval:((Sha.at_ X (t / 4):Nat):Int) / 2 ^ (24-8*(t%4))%256=((UInt8.ofNat (Sha.at_ X (t / 4) / 2 ^ (24-8*(t%4))%256)).toNat:Int):=by
         rw[UInt8.toNat_ofNat']
         simp
        have hset:=HO.out.set_ (firsts X t).length (Value.int .u8 (((Sha.at_ X (t / 4):Nat):Int) / 2 ^ (24-8*(t%4))%256))
        rw[yjj _ (by rw[yb0];exact hlt) _ _ hval,yb0,←yg9]at hset
        exact⟨⟨t+1,by omega,by go_num,HS.out.far (by simp;omega) _,HR.out.far (by simp;omega) _,hset,hbx.setCell (by simp;omega) _⟩,by simp[intOf];omega⟩
      · have e32:t=32:=by omega
        have hfin:bRow (firsts X t)=bRow (Sha.sum s.data.toList):=by rw[e32,HX.out];rfl
        have hz:=ybb (firsts X t) (by rw[yb0];exact ht)
        have hz0:=ybb [] (by simp)
        have I24b:=yh (I24.out.trans (congrArg some hz.symm))
        have Hold:=yh (hz0.trans hz.symm)
        have Hfin:=yh hfin
        obtain⟨T3,hT3⟩:=hO
        have G3:=yh hT3
        have HR:=yh hR
        clear hS hR hT3 e32 hfin hz hz0
        go_wp2_with (first
         | (refine wpList_load_row rfl 62 (.tmp 16) rfl wo.heap.size rfl T3 _ (0,0) _ G3.out Tryz.underlying62 rfl I24b.out ?_)
         | (refine yai rfl 62 (.tmp 2) (.tmp 257) rfl w.heap.size (bRow (firsts X t)) rfl rfl _ HR.out I24b.out Hold.out (ya1 _) ?_;intro w6 hw6))
        obtain⟨T5,hT5⟩:=(show Holds w6 w.heap.size (bRow (firsts X t)) from by rw[hw6];exact HR.out.row _)
        exact bodyPost_ret (results_cell_row rfl _ _ w.heap.size T5 _ (0,0) _ rfl hT5 Tryz.underlying62 rfl I24b.out) rfl ⟨by rw[Hfin.out],by rw[hw6];exact below_setRow hbx (Nat.le_refl _) _⟩
end Go.Proofs.YtalfnadejpmjnaaGreatDoor
