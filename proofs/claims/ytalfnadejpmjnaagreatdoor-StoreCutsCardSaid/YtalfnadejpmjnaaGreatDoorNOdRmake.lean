/- A part. -/
import Derived.Test.YtalfnadejpmjnaaGreatDoorNStR
import Derived.Deep.DeepCutAuto
set_option linter.unusedVariables false
set_option linter.unusedSimpArgs false
set_option maxRecDepth 100000
set_option maxHeartbeats 25600000
namespace Go.Proofs.YtalfnadejpmjnaaGreatDoor
open Go.RowKit
theorem Od.ys5 {rs:List Rp}{kind time:Int}{body:ByteArray}(he :¬(rs≠[]∧time<Od.last rs)):
 (kind≠1∧(Rp.linkE (Od.raw rs kind body time)).1=(Od.mk rs kind body time).1∧(Rp.linkE (Od.raw rs kind body time)).2=(Od.mk rs kind body time).2.2)
 ∨(1=kind∧Tx.read body.data.toList=none∧Rp.zero=(Od.mk rs kind body time).1∧6=(Od.mk rs kind body time).2.2)
 ∨(1=kind∧∃t:Tx,Tx.read body.data.toList=some t∧t.signedE≠0∧Rp.zero=(Od.mk rs kind body time).1∧21=(Od.mk rs kind body time).2.2)
 ∨(1=kind∧∃t:Tx,Tx.read body.data.toList=some t∧t.signedE=0∧t.nonce≠(Od.cnt rs t.frm:Int)∧Rp.zero=(Od.mk rs kind body time).1∧22=(Od.mk rs kind body time).2.2)
 ∨(1=kind∧∃t:Tx,Tx.read body.data.toList=some t∧t.signedE=0∧t.nonce=(Od.cnt rs t.frm:Int)∧(Rp.linkE (Od.raw rs kind body time)).1=(Od.mk rs kind body time).1∧(Rp.linkE (Od.raw rs kind body time)).2=(Od.mk rs kind body time).2.2):=by
 by_cases hk:kind=1
 · refine .inr ?_
   subst hk
   cases hr:Tx.read body.data.toList with
   | none=>
     have ha:Od.ask rs 1 body=(-1,6):=by unfold Od.ask;rw[if_pos rfl,hr]
     rw[Od.ye1 he (by rw[ha];decide),ha]
     exact .inl ⟨rfl,rfl,rfl,rfl⟩
   | some t=>
     refine .inr ?_
     by_cases h1:t.signedE=0
     · refine .inr ?_
       by_cases h2:t.nonce=(Od.cnt rs t.frm:Int)
       · have ha:Od.ask rs 1 body=(t.frm,0):=by unfold Od.ask;rw[if_pos rfl,hr];simp only;rw[if_pos h1,if_pos h2]
         rw[Od.ycj he (by rw[ha])]
         exact .inr ⟨rfl,t,rfl,h1,h2,rfl,rfl⟩
       · have ha:Od.ask rs 1 body=(-1,22):=by unfold Od.ask;rw[if_pos rfl,hr];simp only;rw[if_pos h1,if_neg h2]
         rw[Od.ye1 he (by rw[ha];decide),ha]
         exact .inl ⟨rfl,t,rfl,h1,h2,rfl,rfl⟩
     · have ha:Od.ask rs 1 body=(-1,21):=by unfold Od.ask;rw[if_pos rfl,hr];simp only;rw[if_neg h1]
       rw[Od.ye1 he (by rw[ha];decide),ha]
       exact .inl ⟨rfl,t,rfl,h1,rfl,rfl⟩
 · have ha:(Od.ask rs kind body).2=0:=by unfold Od.ask;rw[if_neg hk]
   rw[Od.ycj he ha]
   exact .inl ⟨hk,rfl,rfl⟩
theorem Od.mk_fit {rs:List Rp}(hg:Od.Good rs)(kind time:Int)(body:ByteArray):(Od.mk rs kind body time).1.prev.length=32∧(Od.mk rs kind body time).1.hash.length=32:=by
 by_cases h1:rs≠[]∧time<Od.last rs
 · rw[Od.ydq h1];exact⟨rfl,rfl⟩
 by_cases h2:(Od.ask rs kind body).2=0
 · rw[Od.ycj h1 h2]
   unfold Rp.linkE
   split
   · exact⟨hg.head,Rp.ybf _⟩
   · exact⟨rfl,rfl⟩
 · rw[Od.ye1 h1 h2];exact⟨rfl,rfl⟩
theorem yld (hRS:RefSum)(rs:List Rp)(hg:Od.Good rs)(A:Option Addr)(c:Nat)(kind time:Int)(body:ByteArray)(hs:body.size≤140737488351232)(w:World)(h:SlR w w.heap.size A c rs):
 Calls Tryz.prog 37 #[.slice A rs.length c,.int .i64 kind,.string body,.int .i64 time] w fun e w'=>e=.returned (.tuple #[.agg (Od.mk rs kind body time).1.cells.toArray,.int .i64 (Od.mk rs kind body time).2.2])∧Below w.heap.size w w':=by
 have hmf:=Od.mk_fit hg kind time body
 have hmc:=@Od.ys5 rs kind time body
 have hme:=@Od.ydq rs kind time body
 have HSl:=yh h
 have hH32:=hg.head
 have hlk:=fun W=>ynp hRS (rs.length:Int) kind time body (Od.head rs) hH32 W
 have hrw:(⟨(rs.length:Int),kind,time,body,Od.head rs,Tx.zero⟩:Rp)=Od.raw rs kind body time:=rfl
 rw[hrw]at hlk
 have HLk0:Hid (∀W,Calls Tryz.prog 70 #[.agg (bRow (Od.head rs)).toList.toArray,.int .i64 rs.length,.int .i64 kind,.int .i64 time,.string body] W fun e w'=>e=.returned (.tuple #[.agg (Rp.linkE (Od.raw rs kind body time)).1.cells.toArray,.int .i64 (Rp.linkE (Od.raw rs kind body time)).2])∧Below W.heap.size W w'):=yh (fun W=>by rw[Array.toArray_toList];exact hlk W)
 have HP32:=yh (Tx.yap _ hH32)
 have HP1:Hid (∀v∈(bRow (Od.head rs)).toList,v.oneCell'=true):=yh (ybw _ hH32)
 clear hlk hrw
 have hLr :∀m,rs.length=m+1→∃gA oA CL,A=some ⟨gA,oA,none⟩∧gA<w.heap.size∧w.rangeAt gA (oA+m*68) CL∧CL.length=68∧(∀v∈CL,v.oneCell'=true)∧(∀(W:World) g,Row W g 64 CL→W.cell? ⟨g,2,none⟩=some (.int .i64 (Od.last rs))∧W.rangeAt g 36 (bRow (Od.head rs)).toList):=fun m hm=>by
  obtain⟨gA,oA,e,hgA,hat⟩:=h.1 (by intro q;rw[q]at hm;cases hm)
  have hml:m<rs.length:=by omega
  have hf:=h.2.2.2.2 _ (List.getElem_mem hml)
  refine⟨gA,oA,rs[m].cells,e,hgA,hat m hml,Rp.yao hf.prev hf.hash,Rp.yan hf.prev hf.hash,fun W g hr=>?_⟩
  have q:=Rp.at hf.prev (yah hr)
  rw[(Od.ydb hm).1,(Od.ydb hm).2]
  refine⟨?_,?_⟩
  · have:=q.2.2.1;rwa[Nat.zero_add]at this
  · have:=q.2.2.2.2;rwa[Nat.zero_add]at this
 have RD0:Hid (∀W,Calls Tryz.prog 45 #[.string body] W fun e w'=>ReadEnds (Tx.read body.data.toList) e∧Below W.heap.size W w'):=yh (fun W=>ygl body W hs)
 have hzh :∀W:World,(zeroValue 62).run Tryz.prog W=.ok (.agg (bRow Tx.zero).toList.toArray) W:=fun W=>by rw[Array.toArray_toList];exact yi8 W
 have HBh:Hid (Tryz.prog.built 62 []=some (bRow Tx.zero).toList.toArray):=yh (by rw[Array.toArray_toList];exact yia)
 have HZ32:=yh (Tx.yap Tx.zero rfl)
 have HZh1:Hid (∀v∈(bRow Tx.zero).toList,v.oneCell'=true):=yh (ybw _ rfl)
 have HNil:Hid (rs.length=0→(bRow Tx.zero).toList=(bRow (Od.head rs)).toList):=yh (fun q=>by rw[List.length_eq_zero_iff.1 q];rfl)
 obtain⟨ZH,hZH⟩:=yx ((bRow Tx.zero).toList)
 rw[hZH]at HZ32 HZh1 hzh HBh HNil
 clear hZH
 obtain⟨HP,hHP⟩:=yx ((bRow (Od.head rs)).toList)
 rw[hHP]at HP32 HP1 HLk0 hLr HNil
 clear hHP
 have hzv:=ydz
 have HBt:Hid (Tryz.prog.built 64 []=some Rp.zero.cells.toArray):=yh Rp.yaz
 have HZ68:=yh (Rp.yao Rp.yal.prev Rp.yal.hash)
 have HZ1:=yh (Rp.yan Rp.yal.prev Rp.yal.hash)
 obtain⟨ZT,hZT⟩:=yx (Rp.zero.cells)
 rw[hZT]at hzv HBt HZ68 HZ1
 have HZT:=yh hZT
 clear hZT
 have hzx :∀W:World,(zeroValue 81).run Tryz.prog W=.ok (.agg Tx.none.cells.toArray) W:=yk2
 have HX72:=yh (Tx.yag Tx.yb1)
 have HX1:=yh (Tx.yan Tx.yb1)
 obtain⟨ZX,hZX⟩:=yx (Tx.none.cells)
 rw[hZX]at hzx HX72 HX1
 have HZX:=yh hZX
 clear hZX
 have hrow:=ycg w ZT.toArray ZH.toArray 64 62
 obtain⟨hr1,hb1,hr0⟩:=hrow
 have HB01:=yh hb1
 have HR1a:Hid (Row ((w.alloc (.cells ZT.toArray 64)).alloc (.cells ZH.toArray 62)) (w.heap.size+1) 62 ZH):=yh hr1
 have HR0a:Hid (Row ((w.alloc (.cells ZT.toArray 64)).alloc (.cells ZH.toArray 62)) w.heap.size 64 ZT):=yh hr0
 clear hr1 hb1 hr0
 obtain⟨mk,hmk⟩:=yx (Od.mk rs kind body time)
 obtain⟨R,who,ee⟩:=mk
 rw[hmk]at hmf hmc hme ⊢
 simp only at hmf hmc
 have HCR68:=yh (Rp.yao hmf.1 hmf.2)
 have HCR1:=yh (Rp.yan hmf.1 hmf.2)
 have hne:(rs≠[])=(rs.length≠0):=by simp[List.length_eq_zero_iff]
 have HM:Hid (¬(rs≠[]∧time<Od.last rs)→(kind≠1∧(∀W,Calls Tryz.prog 70 #[.agg HP.toArray,.int .i64 rs.length,.int .i64 kind,.int .i64 time,.string body] W fun e w'=>e=.returned (.tuple #[.agg R.cells.toArray,.int .i64 ee])∧Below W.heap.size W w')∧True)
  ∨(1=kind∧Tx.read body.data.toList=none∧ZT=R.cells∧6=ee)∨(1=kind∧∃t:Tx,Tx.read body.data.toList=some t∧t.signedE≠0∧ZT=R.cells∧21=ee)
  ∨(1=kind∧∃t:Tx,Tx.read body.data.toList=some t∧t.signedE=0∧t.nonce≠(Od.cnt rs t.frm:Int)∧ZT=R.cells∧22=ee)
  ∨(1=kind∧∃t:Tx,Tx.read body.data.toList=some t∧t.signedE=0∧t.nonce=(Od.cnt rs t.frm:Int)∧(∀W,Calls Tryz.prog 70 #[.agg HP.toArray,.int .i64 rs.length,.int .i64 kind,.int .i64 time,.string body] W fun e w'=>e=.returned (.tuple #[.agg R.cells.toArray,.int .i64 ee])∧Below W.heap.size W w')∧True)):=yh (fun he=>by
  rcases hmc he with⟨hk,h1,h2⟩|⟨hk,hR,h1,h2⟩|⟨hk,t,hR,hs,h1,h2⟩|⟨hk,t,hR,hs,hn,h1,h2⟩|⟨hk,t,hR,hs,hn,h1,h2⟩
  · exact .inl ⟨hk,by have:=HLk0.out;rwa[h1,h2]at this,trivial⟩
  · exact .inr (.inl ⟨hk,hR,by rw[←h1,HZT.out],h2⟩)
  · exact .inr (.inr (.inl ⟨hk,t,hR,hs,by rw[←h1,HZT.out],h2⟩))
  · exact .inr (.inr (.inr (.inl ⟨hk,t,hR,hs,hn,by rw[←h1,HZT.out],h2⟩)))
  · exact .inr (.inr (.inr (.inr ⟨hk,t,hR,hs,hn,by have:=HLk0.out;rwa[h1,h2]at this,trivial⟩))))
 have HE:Hid (rs≠[]∧time<Od.last rs→ZT=R.cells∧33=ee):=yh (fun he=>by
  have:=hme he
  injection this with q1 q2
  injection q2 with q2 q3
  exact⟨by rw[q1,HZT.out],q3.symm⟩)
 obtain⟨CR,hCR⟩:=yx (R.cells)
 rw[hCR]at HM HE HCR68 HCR1 ⊢
 rw[hne]at HM HE
 obtain⟨n,hn⟩:=yx (rs.length)
 have hn6:n≤1000000:=by rw[←hn];exact h.2.2.2.1
 rw[hn]at HM HE hLr HNil ⊢
 have HN:=yh hn
 have HG:=yh hg
 clear hCR hmk hmc hme hmf hne hn hg h hH32 HLk0 HZT
 generalize Od.last rs=lt at *
 by_cases hn0:n=0
 · have hzz:=HNil.out hn0
   subst hzz
   have HC:=yh (HM.out (fun q=>q.1 hn0))
   have dn:decide ((n:Int)>0)=false:=decide_eq_false (by omega)
   have dn':decide ((0:Int)<(n:Int))=false:=decide_eq_false (by omega)
   have dnn:decide (0<n)=false:=decide_eq_false (by omega)
   clear HNil HE HM hn0 hLr
   go_enter Tryz.func37,Tryz.ntmps37
   go_upto_region 7 with(first
    | ((with_reducible show wpList _ _ _ (⟨_,.build 62 _,_,_,_,_⟩::_) _ _);refine yak rfl 62 [] rfl (some 14) rfl _ rfl ZH.toArray HBh.out ?_)
    | (
       with_reducible show wpList _ _ _ (⟨_,.store 62 (.tmp 10) _,_,_,_,_⟩::_) _ _
       refine yab rfl 62 (.tmp 10) (.tmp 14) rfl (w.heap.size+1) 0 ZH ZH _ rfl rfl (HR1a.out) (by have:=HZ32.out;have:=HZ32.out;omega) (by rw[yas,HZ32.out]) HZh1.out ?_
       intro w1 hr hg
       rw[yad (HZ32.out.trans HZ32.out.symm)]at hr
       have HB1:=yh (below_own HB01.out hg (fun k hk=>by cases hk;omega))
       have HR81:=yh (HR0a.out.kept hg (by simp))
       have HRp1:=yh hr
       clear hr hg))
   have HBp:=HB1
   have HR8p:=HR81
   have HRpp:=HRp1
   have RD:=yh (RD0.out w1)
   clear HB1 HR81 HRp1 RD0
   generalize w1=wp at *
   rcases HC.out with⟨hk,h1,h2⟩|⟨hk,hR,h1,h2⟩|⟨hk,t,hR,hs,h1,h2⟩|⟨hk,t,hR,hs,hn,h1,h2⟩|⟨hk,t,hR,hs,hn,h1,h2⟩
   · have dk:decide (kind=1)=false:=decide_eq_false hk
     have dkb:(kind == 1)=false:=by simpa using hk
     have dkp:(kind=1)=False:=by simpa using hk
     have HLk:=yh h1
     clear hk h1 h2 RD
     go_wp2_with (first
      | ((with_reducible show wpList _ _ _ (⟨_,.load 62 (.tmp 10),_,_,_,_⟩::_) _ _);refine yac rfl 62 (.tmp 10) rfl (w.heap.size+1) 0 (rfl) ZH _ (yah HRpp.out) Tryz.underlying62 rfl (by rw[yas,HP32.out]) ?_))
     refine(HLk.out _).mono ?_
     rintro _ wl ⟨rfl,hbl⟩
     have HBl:=yh (yaa HBp.out hbl)
     have HR8l:=yh (HR8p.out.below hbl)
     clear hbl
     go_wp2_with (first
      | (
         with_reducible show wpList _ _ _ (⟨_,.store 64 (.tmp 8) _,_,_,_,_⟩::_) _ _
         refine yab rfl 64 (.tmp 8) (.tmp 60) rfl w.heap.size 0 CR ZT _ rfl rfl (HR8l.out) (by have:=HZ68.out;have:=HCR68.out;omega) (by rw[yaf,HCR68.out]) HCR1.out ?_
         intro wz hr hg
         rw[yad (HCR68.out.trans HZ68.out.symm)]at hr
         have HS9:=yh hr
         have HB9:=yh (below_own HBl.out hg (fun k hk=>by cases hk;exact Nat.le_refl _))
         clear hr hg))
     refine bodyPost_ret (yaj rfl _ _ w.heap.size 64 CR _ rfl HS9.out Tryz.underlying64 rfl (by rw[yaf];simp[HCR68.out]) _ rfl) rfl ⟨rfl,HB9.out⟩
   · subst hk h1 h2
     rw[hR]at RD
     clear hR
     go_wp2_with fail
     refine RD.out.mono ?_
     rintro _ wr ⟨⟨en,hen,rfl⟩,hbr⟩
     have HBr:=yh (yaa HBp.out hbr)
     have HR8r:=yh (HR8p.out.below hbr)
     have HRpr:=yh (HRpp.out.below hbr)
     clear hbr RD
     rw[show Tx.pairV (Tx.none,en)=.tuple #[.agg ZX.toArray,.int .i64 en] by rw[←HZX.out];rfl]
     have den:(en != 0)=true:=hen
     clear hen
     go_wp2_with (first
      | (
         with_reducible show wpList _ _ _ (⟨_,.store 81 (.tmp 12) _,_,_,_,_⟩::_) _ _
         refine yab rfl 81 (.tmp 12) (.tmp 36) rfl wr.heap.size 0 ZX ZX _ rfl rfl (Row.new wr 81 ZX) (by have:=HX72.out;have:=HX72.out;omega) (by rw[yam,HX72.out]) HX1.out ?_
         intro w3 hr hg
         rw[yad (HX72.out.trans HX72.out.symm)]at hr
         have hbx:=below_own ((Below.refl wr.heap.size wr).alloc (Nat.le_refl _) (.cells ZX.toArray 81)) hg (fun k hk=>by cases hk;exact Nat.le_refl _)
         have HB3:=yh (yaa HBr.out hbx)
         have HR83:=yh (HR8r.out.below hbx)
         have HRp3:=yh (HRpr.out.below hbx)
         have HT3:=yh hr
         clear hbx
         clear hr hg)
      | ((with_reducible show wpList _ _ _ (⟨_,.build 64 _,_,_,_,_⟩::_) _ _);refine yak rfl 64 [] rfl (some 40) rfl _ rfl ZT.toArray HBt.out ?_)
      | (
         with_reducible show wpList _ _ _ (⟨_,.store 64 (.tmp 8) _,_,_,_,_⟩::_) _ _
         refine yab rfl 64 (.tmp 8) (.tmp 40) rfl w.heap.size 0 ZT ZT _ rfl rfl (HR83.out) (by have:=HZ68.out;have:=HZ68.out;omega) (by rw[yaf,HZ68.out]) HZ1.out ?_
         intro wz hr hg
         rw[yad (HZ68.out.trans HZ68.out.symm)]at hr
         have HS9:=yh hr
         have HB9:=yh (below_own HB3.out hg (fun k hk=>by cases hk;exact Nat.le_refl _))
         clear hr hg))
     refine bodyPost_ret (yaj rfl _ _ w.heap.size 64 ZT _ rfl HS9.out Tryz.underlying64 rfl (by rw[yaf];simp[HZ68.out]) _ rfl) rfl ⟨rfl,HB9.out⟩
   · subst hk h1 h2
     have RDt:Hid (Calls Tryz.prog 45 #[.string body] wp fun e w'=>e=.returned (.tuple #[.agg t.cells.toArray,.int .i64 0])∧Below wp.heap.size wp w'):=yh (by have:=RD.out;rw[hR]at this;exact this)
     clear RD
     have RD:=RDt
     have hto:=Tx.ycv hR
     have hfr:=Tx.ycq hto.2
     have HT72:=yh (Tx.yag hto.1)
     have HT1:=yh (Tx.yan hto.1)
     have HSg:Hid (∀W,Calls Tryz.prog 69 #[.agg t.cells.toArray] W fun e w'=>e=.returned (.int .i64 t.signedE)∧Below W.heap.size W w'):=yh (fun W=>ycb t hto.1 W hRS)
     have HTc:Hid (∀(W:World) (g:Nat),Row W g 81 t.cells→W.cell? ⟨g,0,none⟩=some (.int .i64 t.frm)∧W.cell? ⟨g,1,none⟩=some (.int .i64 t.nonce)):=yh (fun W g h=>by
      have hl:=Tx.yag hto.1
      exact⟨h.cell 0 (by omega),h.cell 1 (by omega)⟩)
     have HNx:Hid (∀W,Below w.heap.size w W→Calls Tryz.prog 23 #[.slice A n c,.int .i64 t.frm] W fun e w'=>e=.returned (.int .i64 (Od.cnt rs t.frm))∧Below W.heap.size W w'):=yh (fun W hW=>by
      have:=yci rs A c t.frm hfr.1 W ((HSl.out.below hW).mono hW.size)
      rwa[HN.out]at this)
     generalize t.cells=CT at *
     generalize t.signedE=sg at *
     generalize t.nonce=no at *
     generalize (Od.cnt rs t.frm:Int)=nn at *
     generalize t.frm=fr at *
     clear hR hto hfr
     have ds:(sg != 0)=true:=by simpa using hs
     clear hs
     go_wp2_with fail
     refine RD.out.mono ?_
     rintro _ wr ⟨rfl,hbr⟩
     have HBr:=yh (yaa HBp.out hbr)
     have HR8r:=yh (HR8p.out.below hbr)
     have HRpr:=yh (HRpp.out.below hbr)
     clear hbr RD
     go_wp2_with (first
      | (
         with_reducible show wpList _ _ _ (⟨_,.store 81 (.tmp 12) _,_,_,_,_⟩::_) _ _
         refine yab rfl 81 (.tmp 12) (.tmp 36) rfl wr.heap.size 0 CT ZX _ rfl rfl (Row.new wr 81 ZX) (by have:=HX72.out;have:=HT72.out;omega) (by rw[yam,HT72.out]) HT1.out ?_
         intro w3 hr hg
         rw[yad (HT72.out.trans HX72.out.symm)]at hr
         have hbx:=below_own ((Below.refl wr.heap.size wr).alloc (Nat.le_refl _) (.cells ZX.toArray 81)) hg (fun k hk=>by cases hk;exact Nat.le_refl _)
         have HB3:=yh (yaa HBr.out hbx)
         have HR83:=yh (HR8r.out.below hbx)
         have HRp3:=yh (HRpr.out.below hbx)
         have HT3:=yh hr
         clear hbx
         clear hr hg)
      | ((with_reducible show wpList _ _ _ (⟨_,.load 81 (.tmp 12),_,_,_,_⟩::_) _ _);refine yac rfl 81 (.tmp 12) rfl wr.heap.size 0 (rfl) CT _ (yah HT3.out) Tryz.underlying81 rfl (by rw[yam,HT72.out]) ?_))
     refine(HSg.out _).mono ?_
     rintro _ w4 ⟨rfl,hb4⟩
     have HB4:=yh (yaa HB3.out hb4)
     have HR84:=yh (HR83.out.below hb4)
     have HRp4:=yh (HRp3.out.below hb4)
     have HT4:=yh (HT3.out.below hb4)
     clear hb4
     go_wp2_with (first
      | ((with_reducible show wpList _ _ _ (⟨_,.build 64 _,_,_,_,_⟩::_) _ _);refine yak rfl 64 [] rfl (some 44) rfl _ rfl ZT.toArray HBt.out ?_)
      | (
         with_reducible show wpList _ _ _ (⟨_,.store 64 (.tmp 8) _,_,_,_,_⟩::_) _ _
         refine yab rfl 64 (.tmp 8) (.tmp 44) rfl w.heap.size 0 ZT ZT _ rfl rfl (HR84.out) (by have:=HZ68.out;have:=HZ68.out;omega) (by rw[yaf,HZ68.out]) HZ1.out ?_
         intro wz hr hg
         rw[yad (HZ68.out.trans HZ68.out.symm)]at hr
         have HS9:=yh hr
         have HB9:=yh (below_own HB4.out hg (fun k hk=>by cases hk;exact Nat.le_refl _))
         clear hr hg))
     refine bodyPost_ret (yaj rfl _ _ w.heap.size 64 ZT _ rfl HS9.out Tryz.underlying64 rfl (by rw[yaf];simp[HZ68.out]) _ rfl) rfl ⟨rfl,HB9.out⟩
   · subst hk h1 h2
     have RDt:Hid (Calls Tryz.prog 45 #[.string body] wp fun e w'=>e=.returned (.tuple #[.agg t.cells.toArray,.int .i64 0])∧Below wp.heap.size wp w'):=yh (by have:=RD.out;rw[hR]at this;exact this)
     clear RD
     have RD:=RDt
     have hto:=Tx.ycv hR
     have hfr:=Tx.ycq hto.2
     have HT72:=yh (Tx.yag hto.1)
     have HT1:=yh (Tx.yan hto.1)
     have HSg:Hid (∀W,Calls Tryz.prog 69 #[.agg t.cells.toArray] W fun e w'=>e=.returned (.int .i64 t.signedE)∧Below W.heap.size W w'):=yh (fun W=>ycb t hto.1 W hRS)
     have HTc:Hid (∀(W:World) (g:Nat),Row W g 81 t.cells→W.cell? ⟨g,0,none⟩=some (.int .i64 t.frm)∧W.cell? ⟨g,1,none⟩=some (.int .i64 t.nonce)):=yh (fun W g h=>by
      have hl:=Tx.yag hto.1
      exact⟨h.cell 0 (by omega),h.cell 1 (by omega)⟩)
     have HNx:Hid (∀W,Below w.heap.size w W→Calls Tryz.prog 23 #[.slice A n c,.int .i64 t.frm] W fun e w'=>e=.returned (.int .i64 (Od.cnt rs t.frm))∧Below W.heap.size W w'):=yh (fun W hW=>by
      have:=yci rs A c t.frm hfr.1 W ((HSl.out.below hW).mono hW.size)
      rwa[HN.out]at this)
     generalize t.cells=CT at *
     generalize t.signedE=sg at *
     generalize t.nonce=no at *
     generalize (Od.cnt rs t.frm:Int)=nn at *
     generalize t.frm=fr at *
     clear hR hto hfr
     have ds:(sg != 0)=false:=by simpa using hs
     have dn:(no != nn)=true:=by simpa using hn
     subst hs
     clear hn
     go_wp2_with fail
     refine RD.out.mono ?_
     rintro _ wr ⟨rfl,hbr⟩
     have HBr:=yh (yaa HBp.out hbr)
     have HR8r:=yh (HR8p.out.below hbr)
     have HRpr:=yh (HRpp.out.below hbr)
     clear hbr RD
     go_wp2_with (first
      | (
         with_reducible show wpList _ _ _ (⟨_,.store 81 (.tmp 12) _,_,_,_,_⟩::_) _ _
         refine yab rfl 81 (.tmp 12) (.tmp 36) rfl wr.heap.size 0 CT ZX _ rfl rfl (Row.new wr 81 ZX) (by have:=HX72.out;have:=HT72.out;omega) (by rw[yam,HT72.out]) HT1.out ?_
         intro w3 hr hg
         rw[yad (HT72.out.trans HX72.out.symm)]at hr
         have hbx:=below_own ((Below.refl wr.heap.size wr).alloc (Nat.le_refl _) (.cells ZX.toArray 81)) hg (fun k hk=>by cases hk;exact Nat.le_refl _)
         have HB3:=yh (yaa HBr.out hbx)
         have HR83:=yh (HR8r.out.below hbx)
         have HRp3:=yh (HRpr.out.below hbx)
         have HT3:=yh hr
         clear hbx
         clear hr hg)
      | ((with_reducible show wpList _ _ _ (⟨_,.load 81 (.tmp 12),_,_,_,_⟩::_) _ _);refine yac rfl 81 (.tmp 12) rfl wr.heap.size 0 (rfl) CT _ (yah HT3.out) Tryz.underlying81 rfl (by rw[yam,HT72.out]) ?_))
     refine(HSg.out _).mono ?_
     rintro _ w4 ⟨rfl,hb4⟩
     have HB4:=yh (yaa HB3.out hb4)
     have HR84:=yh (HR83.out.below hb4)
     have HRp4:=yh (HRp3.out.below hb4)
     have HT4:=yh (HT3.out.below hb4)
     clear hb4
     go_wp2_with fail
     refine wp_region_noPanic ?_
     refine wp_region_held_drew (S:=fun w'=>Below w4.heap.size w4 w') (by kernel_rfl) ((Below.refl _ _).drew) (fun gH=>?_)
     generalize w4.drew=wq at *
     refine yg 0 (.pointer (some ⟨wr.heap.size,1,none⟩)) rfl gH ?_
     refine yk 1 (.int .i64 no) rfl (fun w' hSw=>by have hq:=hSw;have hd:=(HTc.out _ _ (HT4.out.below hSw)).2;go_simp) gH ?_
     refine yg 2 (.slice A n c) rfl gH ?_
     simp only[Act.put,Ya,Yb,Yc,Yd,Ye,Yf]
     refine yg 3 (.pointer (some ⟨wr.heap.size,0,none⟩)) rfl gH ?_
     refine yk 4 (.int .i64 fr) rfl (fun w' hSw=>by have hq:=hSw;have hd:=(HTc.out _ _ (HT4.out.below hSw)).1;go_simp) gH ?_
     refine yR 5 (by kernel_rfl) rfl (fun K1 hK1=>?_)
     try simp only[Act.put,Ya,Yb,Yc,Yd,Ye,Yf]
     go_simp
     refine Calls.mono (HNx.out _ (yaa HB4.out gH)) ?_
     rintro e wc1 ⟨rfl,hc2⟩
     refine hK1.out _ _ (yaa gH hc2) (fun gH=>?_)
     clear hK1 K1
     refine yg 6 (.bool true) rfl gH ?_
     refine wpAnyH_done (by kernel_rfl) ?_ _
     refine NoPanic.normal ?_
     have HB5:=yh (yaa HB4.out gH)
     have HR85:=yh (HR84.out.below gH)
     have HRp5:=yh (HRp4.out.below gH)
     clear gH
     go_wp2_with (first
      | ((with_reducible show wpList _ _ _ (⟨_,.build 64 _,_,_,_,_⟩::_) _ _);refine yak rfl 64 [] rfl (some 52) rfl _ rfl ZT.toArray HBt.out ?_)
      | (
         with_reducible show wpList _ _ _ (⟨_,.store 64 (.tmp 8) _,_,_,_,_⟩::_) _ _
         refine yab rfl 64 (.tmp 8) (.tmp 52) rfl w.heap.size 0 ZT ZT _ rfl rfl (HR85.out) (by have:=HZ68.out;have:=HZ68.out;omega) (by rw[yaf,HZ68.out]) HZ1.out ?_
         intro wz hr hg
         rw[yad (HZ68.out.trans HZ68.out.symm)]at hr
         have HS9:=yh hr
         have HB9:=yh (below_own HB5.out hg (fun k hk=>by cases hk;exact Nat.le_refl _))
         clear hr hg))
     refine bodyPost_ret (yaj rfl _ _ w.heap.size 64 ZT _ rfl HS9.out Tryz.underlying64 rfl (by rw[yaf];simp[HZ68.out]) _ rfl) rfl ⟨rfl,HB9.out⟩
   · subst hk
     have HLk:=yh h1
     clear h1 h2
     have RDt:Hid (Calls Tryz.prog 45 #[.string body] wp fun e w'=>e=.returned (.tuple #[.agg t.cells.toArray,.int .i64 0])∧Below wp.heap.size wp w'):=yh (by have:=RD.out;rw[hR]at this;exact this)
     clear RD
     have RD:=RDt
     have hto:=Tx.ycv hR
     have hfr:=Tx.ycq hto.2
     have HT72:=yh (Tx.yag hto.1)
     have HT1:=yh (Tx.yan hto.1)
     have HSg:Hid (∀W,Calls Tryz.prog 69 #[.agg t.cells.toArray] W fun e w'=>e=.returned (.int .i64 t.signedE)∧Below W.heap.size W w'):=yh (fun W=>ycb t hto.1 W hRS)
     have HTc:Hid (∀(W:World) (g:Nat),Row W g 81 t.cells→W.cell? ⟨g,0,none⟩=some (.int .i64 t.frm)∧W.cell? ⟨g,1,none⟩=some (.int .i64 t.nonce)):=yh (fun W g h=>by
      have hl:=Tx.yag hto.1
      exact⟨h.cell 0 (by omega),h.cell 1 (by omega)⟩)
     have HNx:Hid (∀W,Below w.heap.size w W→Calls Tryz.prog 23 #[.slice A n c,.int .i64 t.frm] W fun e w'=>e=.returned (.int .i64 (Od.cnt rs t.frm))∧Below W.heap.size W w'):=yh (fun W hW=>by
      have:=yci rs A c t.frm hfr.1 W ((HSl.out.below hW).mono hW.size)
      rwa[HN.out]at this)
     generalize t.cells=CT at *
     generalize t.signedE=sg at *
     generalize t.nonce=no at *
     generalize (Od.cnt rs t.frm:Int)=nn at *
     generalize t.frm=fr at *
     clear hR hto hfr
     have ds:(sg != 0)=false:=by simpa using hs
     have dn:(no != nn)=false:=by simpa using hn
     subst hs
     clear hn
     go_wp2_with fail
     refine RD.out.mono ?_
     rintro _ wr ⟨rfl,hbr⟩
     have HBr:=yh (yaa HBp.out hbr)
     have HR8r:=yh (HR8p.out.below hbr)
     have HRpr:=yh (HRpp.out.below hbr)
     clear hbr RD
     go_wp2_with (first
      | (
         with_reducible show wpList _ _ _ (⟨_,.store 81 (.tmp 12) _,_,_,_,_⟩::_) _ _
         refine yab rfl 81 (.tmp 12) (.tmp 36) rfl wr.heap.size 0 CT ZX _ rfl rfl (Row.new wr 81 ZX) (by have:=HX72.out;have:=HT72.out;omega) (by rw[yam,HT72.out]) HT1.out ?_
         intro w3 hr hg
         rw[yad (HT72.out.trans HX72.out.symm)]at hr
         have hbx:=below_own ((Below.refl wr.heap.size wr).alloc (Nat.le_refl _) (.cells ZX.toArray 81)) hg (fun k hk=>by cases hk;exact Nat.le_refl _)
         have HB3:=yh (yaa HBr.out hbx)
         have HR83:=yh (HR8r.out.below hbx)
         have HRp3:=yh (HRpr.out.below hbx)
         have HT3:=yh hr
         clear hbx
         clear hr hg)
      | ((with_reducible show wpList _ _ _ (⟨_,.load 81 (.tmp 12),_,_,_,_⟩::_) _ _);refine yac rfl 81 (.tmp 12) rfl wr.heap.size 0 (rfl) CT _ (yah HT3.out) Tryz.underlying81 rfl (by rw[yam,HT72.out]) ?_))
     refine(HSg.out _).mono ?_
     rintro _ w4 ⟨rfl,hb4⟩
     have HB4:=yh (yaa HB3.out hb4)
     have HR84:=yh (HR83.out.below hb4)
     have HRp4:=yh (HRp3.out.below hb4)
     have HT4:=yh (HT3.out.below hb4)
     clear hb4
     go_wp2_with fail
     refine wp_region_noPanic ?_
     refine wp_region_held_drew (S:=fun w'=>Below w4.heap.size w4 w') (by kernel_rfl) ((Below.refl _ _).drew) (fun gH=>?_)
     generalize w4.drew=wq at *
     refine yg 0 (.pointer (some ⟨wr.heap.size,1,none⟩)) rfl gH ?_
     simp only[Act.put,Ya,Yb,Yc,Yd,Ye,Yf]
     refine yk 1 (.int .i64 no) rfl (fun w' hSw=>by have hq:=hSw;have hd:=(HTc.out _ _ (HT4.out.below hSw)).2;go_simp) gH ?_
     refine yg 2 (.slice A n c) rfl gH ?_
     refine yg 3 (.pointer (some ⟨wr.heap.size,0,none⟩)) rfl gH ?_
     simp only[Act.put,Ya,Yb,Yc,Yd,Ye,Yf]
     refine yk 4 (.int .i64 fr) rfl (fun w' hSw=>by have hq:=hSw;have hd:=(HTc.out _ _ (HT4.out.below hSw)).1;go_simp) gH ?_
     refine yR 5 (by kernel_rfl) rfl (fun K1 hK1=>?_)
     try simp only[Act.put,Ya,Yb,Yc,Yd,Ye,Yf]
     go_simp
     refine Calls.mono (HNx.out _ (yaa HB4.out gH)) ?_
     rintro e wc1 ⟨rfl,hc2⟩
     refine hK1.out _ _ (yaa gH hc2) (fun gH=>?_)
     clear hK1 K1
     refine yg 6 (.bool false) rfl gH ?_
     refine wpAnyH_done (by kernel_rfl) ?_ _
     refine NoPanic.normal ?_
     have HB5:=yh (yaa HB4.out gH)
     have HR85:=yh (HR84.out.below gH)
     have HRp5:=yh (HRp4.out.below gH)
     clear gH
     go_wp2_with (first
      | ((with_reducible show wpList _ _ _ (⟨_,.load 62 (.tmp 10),_,_,_,_⟩::_) _ _);refine yac rfl 62 (.tmp 10) rfl (w.heap.size+1) 0 (rfl) ZH _ (yah HRp5.out) Tryz.underlying62 rfl (by rw[yas,HP32.out]) ?_))
     refine(HLk.out _).mono ?_
     rintro _ wl ⟨rfl,hbl⟩
     have HBl:=yh (yaa HB5.out hbl)
     have HR8l:=yh (HR85.out.below hbl)
     clear hbl
     go_wp2_with (first
      | (
         with_reducible show wpList _ _ _ (⟨_,.store 64 (.tmp 8) _,_,_,_,_⟩::_) _ _
         refine yab rfl 64 (.tmp 8) (.tmp 60) rfl w.heap.size 0 CR ZT _ rfl rfl (HR8l.out) (by have:=HZ68.out;have:=HCR68.out;omega) (by rw[yaf,HCR68.out]) HCR1.out ?_
         intro wz hr hg
         rw[yad (HCR68.out.trans HZ68.out.symm)]at hr
         have HS9:=yh hr
         have HB9:=yh (below_own HBl.out hg (fun k hk=>by cases hk;exact Nat.le_refl _))
         clear hr hg))
     refine bodyPost_ret (yaj rfl _ _ w.heap.size 64 CR _ rfl HS9.out Tryz.underlying64 rfl (by rw[yaf];simp[HCR68.out]) _ rfl) rfl ⟨rfl,HB9.out⟩
 · obtain⟨m,hm⟩ :∃m,n=m+1:=⟨n-1,by omega⟩
   obtain⟨gA,oA,CL,hA,hgA,hrg,hCL,hCL1,hbox⟩:=hLr m hm
   subst hA
   have HL68:=yh hCL
   have HL1:=yh hCL1
   have HLr:=yh (fun (W:World) (hW:Below w.heap.size w W)=>show W.rangeAt gA (oA+m*68) CL from fun j u hu=>(hW.cell (p:=⟨gA,oA+m*68+j,none⟩) hgA).trans (hrg j u hu))
   have HBox:=yh hbox
   have e1:IntKind.i64.wrap ((n:Int)-1)=(m:Int):=by rw[IntWalk.i64_in _ (by omega)];omega
   have hmn:(m:Int)<(n:Int):=by omega
   have hm0:(0:Int)≤(m:Int):=by omega
   have dn:decide ((n:Int)>0)=true:=decide_eq_true (by omega)
   have dn':decide ((0:Int)<(n:Int))=true:=decide_eq_true (by omega)
   have dnn:decide (0<n)=true:=decide_eq_true (by omega)
   have HmN:=yh hm
   clear hLr hCL hCL1 hrg hbox HNil hm hgA
   by_cases hlt:time<lt
   · obtain⟨z1,z2⟩:=HE.out ⟨hn0,hlt⟩
     subst z1 z2
     have d1:decide (time<lt)=true:=decide_eq_true hlt
     clear HE HM hlt RD0 hn0
     go_enter Tryz.func37,Tryz.ntmps37
     go_wp2_with (first
      | ((with_reducible show wpList _ _ _ (⟨_,.build 62 _,_,_,_,_⟩::_) _ _);refine yak rfl 62 [] rfl (some 14) rfl _ rfl ZH.toArray HBh.out ?_)
      | (
         with_reducible show wpList _ _ _ (⟨_,.store 62 (.tmp 10) _,_,_,_,_⟩::_) _ _
         refine yab rfl 62 (.tmp 10) (.tmp 14) rfl (w.heap.size+1) 0 ZH ZH _ rfl rfl (HR1a.out) (by have:=HZ32.out;have:=HZ32.out;omega) (by rw[yas,HZ32.out]) HZh1.out ?_
         intro w1 hr hg
         rw[yad (HZ32.out.trans HZ32.out.symm)]at hr
         have HB1:=yh (below_own HB01.out hg (fun k hk=>by cases hk;omega))
         have HR81:=yh (HR0a.out.kept hg (by simp))
         have HRp1:=yh hr
         clear hr hg)
      | ((with_reducible show wpList _ _ _ (⟨_,.load 64 (.tmp 22),_,_,_,_⟩::_) _ _);refine yac rfl 64 (.tmp 22) rfl gA (oA+m*68) (rfl) CL _ (HLr.out _ HB1.out) Tryz.underlying64 rfl (by rw[yaf,HL68.out]) ?_)
      | (
         with_reducible show wpList _ _ _ (⟨_,.store 64 (.tmp 11) _,_,_,_,_⟩::_) _ _
         refine yab rfl 64 (.tmp 11) (.tmp 23) rfl w1.heap.size 0 CL ZT _ rfl rfl (Row.new w1 64 ZT) (by have:=HZ68.out;have:=HL68.out;omega) (by rw[yaf,HL68.out]) HL1.out ?_
         intro w2 hr hg
         rw[yad (HL68.out.trans HZ68.out.symm)]at hr
         have hbx:=below_own ((Below.refl w1.heap.size w1).alloc (Nat.le_refl _) (.cells ZT.toArray 64)) hg (fun k hk=>by cases hk;exact Nat.le_refl _)
         have HB2:=yh (yaa HB1.out hbx)
         have HR82:=yh (HR81.out.below hbx)
         have HRp2:=yh (HRp1.out.below hbx)
         have HRl:=yh hr
         have ct:=(HBox.out _ _ HRl.out).1
         clear hbx
         clear hr hg)
      | ((with_reducible show wpList _ _ _ (⟨_,.build 64 _,_,_,_,_⟩::_) _ _);refine yak rfl 64 [] rfl (some 28) rfl _ rfl ZT.toArray HBt.out ?_)
      | (
         with_reducible show wpList _ _ _ (⟨_,.store 64 (.tmp 8) _,_,_,_,_⟩::_) _ _
         refine yab rfl 64 (.tmp 8) (.tmp 28) rfl w.heap.size 0 ZT ZT _ rfl rfl (HR82.out) (by have:=HZ68.out;have:=HZ68.out;omega) (by rw[yaf,HZ68.out]) HZ1.out ?_
         intro wz hr hg
         rw[yad (HZ68.out.trans HZ68.out.symm)]at hr
         have HS9:=yh hr
         have HB9:=yh (below_own HB2.out hg (fun k hk=>by cases hk;exact Nat.le_refl _))
         clear hr hg))
     refine bodyPost_ret (yaj rfl _ _ w.heap.size 64 ZT _ rfl HS9.out Tryz.underlying64 rfl (by rw[yaf];simp[HZ68.out]) _ rfl) rfl ⟨rfl,HB9.out⟩
   · have HC:=yh (HM.out (fun q=>hlt q.2))
     have d1:decide (time<lt)=false:=decide_eq_false hlt
     clear HE HM hlt hn0
     go_enter Tryz.func37,Tryz.ntmps37
     go_upto_region 7 with(first
      | ((with_reducible show wpList _ _ _ (⟨_,.build 62 _,_,_,_,_⟩::_) _ _);refine yak rfl 62 [] rfl (some 14) rfl _ rfl ZH.toArray HBh.out ?_)
      | (
         with_reducible show wpList _ _ _ (⟨_,.store 62 (.tmp 10) _,_,_,_,_⟩::_) _ _
         refine yab rfl 62 (.tmp 10) (.tmp 14) rfl (w.heap.size+1) 0 ZH ZH _ rfl rfl (HR1a.out) (by have:=HZ32.out;have:=HZ32.out;omega) (by rw[yas,HZ32.out]) HZh1.out ?_
         intro w1 hr hg
         rw[yad (HZ32.out.trans HZ32.out.symm)]at hr
         have HB1:=yh (below_own HB01.out hg (fun k hk=>by cases hk;omega))
         have HR81:=yh (HR0a.out.kept hg (by simp))
         have HRp1:=yh hr
         clear hr hg)
      | ((with_reducible show wpList _ _ _ (⟨_,.load 64 (.tmp 22),_,_,_,_⟩::_) _ _);refine yac rfl 64 (.tmp 22) rfl gA (oA+m*68) (rfl) CL _ (HLr.out _ HB1.out) Tryz.underlying64 rfl (by rw[yaf,HL68.out]) ?_)
      | (
         with_reducible show wpList _ _ _ (⟨_,.store 64 (.tmp 11) _,_,_,_,_⟩::_) _ _
         refine yab rfl 64 (.tmp 11) (.tmp 23) rfl w1.heap.size 0 CL ZT _ rfl rfl (Row.new w1 64 ZT) (by have:=HZ68.out;have:=HL68.out;omega) (by rw[yaf,HL68.out]) HL1.out ?_
         intro w2 hr hg
         rw[yad (HL68.out.trans HZ68.out.symm)]at hr
         have hbx:=below_own ((Below.refl w1.heap.size w1).alloc (Nat.le_refl _) (.cells ZT.toArray 64)) hg (fun k hk=>by cases hk;exact Nat.le_refl _)
         have HB2:=yh (yaa HB1.out hbx)
         have HR82:=yh (HR81.out.below hbx)
         have HRp2:=yh (HRp1.out.below hbx)
         have HRl:=yh hr
         have ct:=(HBox.out _ _ HRl.out).1
         clear hbx
         clear hr hg)
      | ((with_reducible show wpList _ _ _ (⟨_,.load 62 (.tmp 29),_,_,_,_⟩::_) _ _);refine yac rfl 62 (.tmp 29) rfl w1.heap.size 36 (rfl) HP _ ((HBox.out _ _ HRl.out).2) Tryz.underlying62 rfl (by rw[yas,HP32.out]) ?_)
      | (
         with_reducible show wpList _ _ _ (⟨_,.store 62 (.tmp 10) _,_,_,_,_⟩::_) _ _
         refine yab rfl 62 (.tmp 10) (.tmp 30) rfl (w.heap.size+1) 0 HP ZH _ rfl rfl (HRp2.out) (by have:=HZ32.out;have:=HP32.out;omega) (by rw[yas,HP32.out]) HP1.out ?_
         intro wp hr hg
         rw[yad (HP32.out.trans HZ32.out.symm)]at hr
         have HBp:=yh (below_own HB2.out hg (fun k hk=>by cases hk;omega))
         have HR8p:=yh (HR82.out.kept hg (by simp))
         have HRpp:=yh hr
         clear ct
         clear hr hg))
     have RD:=yh (RD0.out wp)
     clear RD0
     rcases HC.out with⟨hk,h1,h2⟩|⟨hk,hR,h1,h2⟩|⟨hk,t,hR,hs,h1,h2⟩|⟨hk,t,hR,hs,hn,h1,h2⟩|⟨hk,t,hR,hs,hn,h1,h2⟩
     · have dk:decide (kind=1)=false:=decide_eq_false hk
       have dkb:(kind == 1)=false:=by simpa using hk
       have dkp:(kind=1)=False:=by simpa using hk
       have HLk:=yh h1
       clear hk h1 h2 RD
       go_wp2_with (first
        | ((with_reducible show wpList _ _ _ (⟨_,.load 62 (.tmp 10),_,_,_,_⟩::_) _ _);refine yac rfl 62 (.tmp 10) rfl (w.heap.size+1) 0 (rfl) HP _ (yah HRpp.out) Tryz.underlying62 rfl (by rw[yas,HP32.out]) ?_))
       refine(HLk.out _).mono ?_
       rintro _ wl ⟨rfl,hbl⟩
       have HBl:=yh (yaa HBp.out hbl)
       have HR8l:=yh (HR8p.out.below hbl)
       clear hbl
       go_wp2_with (first
        | (
           with_reducible show wpList _ _ _ (⟨_,.store 64 (.tmp 8) _,_,_,_,_⟩::_) _ _
           refine yab rfl 64 (.tmp 8) (.tmp 60) rfl w.heap.size 0 CR ZT _ rfl rfl (HR8l.out) (by have:=HZ68.out;have:=HCR68.out;omega) (by rw[yaf,HCR68.out]) HCR1.out ?_
           intro wz hr hg
           rw[yad (HCR68.out.trans HZ68.out.symm)]at hr
           have HS9:=yh hr
           have HB9:=yh (below_own HBl.out hg (fun k hk=>by cases hk;exact Nat.le_refl _))
           clear hr hg))
       refine bodyPost_ret (yaj rfl _ _ w.heap.size 64 CR _ rfl HS9.out Tryz.underlying64 rfl (by rw[yaf];simp[HCR68.out]) _ rfl) rfl ⟨rfl,HB9.out⟩
     · subst hk h1 h2
       rw[hR]at RD
       clear hR
       go_wp2_with fail
       refine RD.out.mono ?_
       rintro _ wr ⟨⟨en,hen,rfl⟩,hbr⟩
       have HBr:=yh (yaa HBp.out hbr)
       have HR8r:=yh (HR8p.out.below hbr)
       have HRpr:=yh (HRpp.out.below hbr)
       clear hbr RD
       rw[show Tx.pairV (Tx.none,en)=.tuple #[.agg ZX.toArray,.int .i64 en] by rw[←HZX.out];rfl]
       have den:(en != 0)=true:=hen
       clear hen
       go_wp2_with (first
        | (
           with_reducible show wpList _ _ _ (⟨_,.store 81 (.tmp 12) _,_,_,_,_⟩::_) _ _
           refine yab rfl 81 (.tmp 12) (.tmp 36) rfl wr.heap.size 0 ZX ZX _ rfl rfl (Row.new wr 81 ZX) (by have:=HX72.out;have:=HX72.out;omega) (by rw[yam,HX72.out]) HX1.out ?_
           intro w3 hr hg
           rw[yad (HX72.out.trans HX72.out.symm)]at hr
           have hbx:=below_own ((Below.refl wr.heap.size wr).alloc (Nat.le_refl _) (.cells ZX.toArray 81)) hg (fun k hk=>by cases hk;exact Nat.le_refl _)
           have HB3:=yh (yaa HBr.out hbx)
           have HR83:=yh (HR8r.out.below hbx)
           have HRp3:=yh (HRpr.out.below hbx)
           have HT3:=yh hr
           clear hbx
           clear hr hg)
        | ((with_reducible show wpList _ _ _ (⟨_,.build 64 _,_,_,_,_⟩::_) _ _);refine yak rfl 64 [] rfl (some 40) rfl _ rfl ZT.toArray HBt.out ?_)
        | (
           with_reducible show wpList _ _ _ (⟨_,.store 64 (.tmp 8) _,_,_,_,_⟩::_) _ _
           refine yab rfl 64 (.tmp 8) (.tmp 40) rfl w.heap.size 0 ZT ZT _ rfl rfl (HR83.out) (by have:=HZ68.out;have:=HZ68.out;omega) (by rw[yaf,HZ68.out]) HZ1.out ?_
           intro wz hr hg
           rw[yad (HZ68.out.trans HZ68.out.symm)]at hr
           have HS9:=yh hr
           have HB9:=yh (below_own HB3.out hg (fun k hk=>by cases hk;exact Nat.le_refl _))
           clear hr hg))
       refine bodyPost_ret (yaj rfl _ _ w.heap.size 64 ZT _ rfl HS9.out Tryz.underlying64 rfl (by rw[yaf];simp[HZ68.out]) _ rfl) rfl ⟨rfl,HB9.out⟩
     · subst hk h1 h2
       have RDt:Hid (Calls Tryz.prog 45 #[.string body] wp fun e w'=>e=.returned (.tuple #[.agg t.cells.toArray,.int .i64 0])∧Below wp.heap.size wp w'):=yh (by have:=RD.out;rw[hR]at this;exact this)
       clear RD
       have RD:=RDt
       have hto:=Tx.ycv hR
       have hfr:=Tx.ycq hto.2
       have HT72:=yh (Tx.yag hto.1)
       have HT1:=yh (Tx.yan hto.1)
       have HSg:Hid (∀W,Calls Tryz.prog 69 #[.agg t.cells.toArray] W fun e w'=>e=.returned (.int .i64 t.signedE)∧Below W.heap.size W w'):=yh (fun W=>ycb t hto.1 W hRS)
       have HTc:Hid (∀(W:World) (g:Nat),Row W g 81 t.cells→W.cell? ⟨g,0,none⟩=some (.int .i64 t.frm)∧W.cell? ⟨g,1,none⟩=some (.int .i64 t.nonce)):=yh (fun W g h=>by
        have hl:=Tx.yag hto.1
        exact⟨h.cell 0 (by omega),h.cell 1 (by omega)⟩)
       have HNx:Hid (∀W,Below w.heap.size w W→Calls Tryz.prog 23 #[.slice (some ⟨gA,oA,none⟩) n c,.int .i64 t.frm] W fun e w'=>e=.returned (.int .i64 (Od.cnt rs t.frm))∧Below W.heap.size W w'):=yh (fun W hW=>by
        have:=yci rs (some ⟨gA,oA,none⟩) c t.frm hfr.1 W ((HSl.out.below hW).mono hW.size)
        rwa[HN.out]at this)
       generalize t.cells=CT at *
       generalize t.signedE=sg at *
       generalize t.nonce=no at *
       generalize (Od.cnt rs t.frm:Int)=nn at *
       generalize t.frm=fr at *
       clear hR hto hfr
       have ds:(sg != 0)=true:=by simpa using hs
       clear hs
       go_wp2_with fail
       refine RD.out.mono ?_
       rintro _ wr ⟨rfl,hbr⟩
       have HBr:=yh (yaa HBp.out hbr)
       have HR8r:=yh (HR8p.out.below hbr)
       have HRpr:=yh (HRpp.out.below hbr)
       clear hbr RD
       go_wp2_with (first
        | (
           with_reducible show wpList _ _ _ (⟨_,.store 81 (.tmp 12) _,_,_,_,_⟩::_) _ _
           refine yab rfl 81 (.tmp 12) (.tmp 36) rfl wr.heap.size 0 CT ZX _ rfl rfl (Row.new wr 81 ZX) (by have:=HX72.out;have:=HT72.out;omega) (by rw[yam,HT72.out]) HT1.out ?_
           intro w3 hr hg
           rw[yad (HT72.out.trans HX72.out.symm)]at hr
           have hbx:=below_own ((Below.refl wr.heap.size wr).alloc (Nat.le_refl _) (.cells ZX.toArray 81)) hg (fun k hk=>by cases hk;exact Nat.le_refl _)
           have HB3:=yh (yaa HBr.out hbx)
           have HR83:=yh (HR8r.out.below hbx)
           have HRp3:=yh (HRpr.out.below hbx)
           have HT3:=yh hr
           clear hbx
           clear hr hg)
        | ((with_reducible show wpList _ _ _ (⟨_,.load 81 (.tmp 12),_,_,_,_⟩::_) _ _);refine yac rfl 81 (.tmp 12) rfl wr.heap.size 0 (rfl) CT _ (yah HT3.out) Tryz.underlying81 rfl (by rw[yam,HT72.out]) ?_))
       refine(HSg.out _).mono ?_
       rintro _ w4 ⟨rfl,hb4⟩
       have HB4:=yh (yaa HB3.out hb4)
       have HR84:=yh (HR83.out.below hb4)
       have HRp4:=yh (HRp3.out.below hb4)
       have HT4:=yh (HT3.out.below hb4)
       clear hb4
       go_wp2_with (first
        | ((with_reducible show wpList _ _ _ (⟨_,.build 64 _,_,_,_,_⟩::_) _ _);refine yak rfl 64 [] rfl (some 44) rfl _ rfl ZT.toArray HBt.out ?_)
        | (
           with_reducible show wpList _ _ _ (⟨_,.store 64 (.tmp 8) _,_,_,_,_⟩::_) _ _
           refine yab rfl 64 (.tmp 8) (.tmp 44) rfl w.heap.size 0 ZT ZT _ rfl rfl (HR84.out) (by have:=HZ68.out;have:=HZ68.out;omega) (by rw[yaf,HZ68.out]) HZ1.out ?_
           intro wz hr hg
           rw[yad (HZ68.out.trans HZ68.out.symm)]at hr
           have HS9:=yh hr
           have HB9:=yh (below_own HB4.out hg (fun k hk=>by cases hk;exact Nat.le_refl _))
           clear hr hg))
       refine bodyPost_ret (yaj rfl _ _ w.heap.size 64 ZT _ rfl HS9.out Tryz.underlying64 rfl (by rw[yaf];simp[HZ68.out]) _ rfl) rfl ⟨rfl,HB9.out⟩
     · subst hk h1 h2
       have RDt:Hid (Calls Tryz.prog 45 #[.string body] wp fun e w'=>e=.returned (.tuple #[.agg t.cells.toArray,.int .i64 0])∧Below wp.heap.size wp w'):=yh (by have:=RD.out;rw[hR]at this;exact this)
       clear RD
       have RD:=RDt
       have hto:=Tx.ycv hR
       have hfr:=Tx.ycq hto.2
       have HT72:=yh (Tx.yag hto.1)
       have HT1:=yh (Tx.yan hto.1)
       have HSg:Hid (∀W,Calls Tryz.prog 69 #[.agg t.cells.toArray] W fun e w'=>e=.returned (.int .i64 t.signedE)∧Below W.heap.size W w'):=yh (fun W=>ycb t hto.1 W hRS)
       have HTc:Hid (∀(W:World) (g:Nat),Row W g 81 t.cells→W.cell? ⟨g,0,none⟩=some (.int .i64 t.frm)∧W.cell? ⟨g,1,none⟩=some (.int .i64 t.nonce)):=yh (fun W g h=>by
        have hl:=Tx.yag hto.1
        exact⟨h.cell 0 (by omega),h.cell 1 (by omega)⟩)
       have HNx:Hid (∀W,Below w.heap.size w W→Calls Tryz.prog 23 #[.slice (some ⟨gA,oA,none⟩) n c,.int .i64 t.frm] W fun e w'=>e=.returned (.int .i64 (Od.cnt rs t.frm))∧Below W.heap.size W w'):=yh (fun W hW=>by
        have:=yci rs (some ⟨gA,oA,none⟩) c t.frm hfr.1 W ((HSl.out.below hW).mono hW.size)
        rwa[HN.out]at this)
       generalize t.cells=CT at *
       generalize t.signedE=sg at *
       generalize t.nonce=no at *
       generalize (Od.cnt rs t.frm:Int)=nn at *
       generalize t.frm=fr at *
       clear hR hto hfr
       have ds:(sg != 0)=false:=by simpa using hs
       have dn:(no != nn)=true:=by simpa using hn
       subst hs
       clear hn
       go_wp2_with fail
       refine RD.out.mono ?_
       rintro _ wr ⟨rfl,hbr⟩
       have HBr:=yh (yaa HBp.out hbr)
       have HR8r:=yh (HR8p.out.below hbr)
       have HRpr:=yh (HRpp.out.below hbr)
       clear hbr RD
       go_wp2_with (first
        | (
           with_reducible show wpList _ _ _ (⟨_,.store 81 (.tmp 12) _,_,_,_,_⟩::_) _ _
           refine yab rfl 81 (.tmp 12) (.tmp 36) rfl wr.heap.size 0 CT ZX _ rfl rfl (Row.new wr 81 ZX) (by have:=HX72.out;have:=HT72.out;omega) (by rw[yam,HT72.out]) HT1.out ?_
           intro w3 hr hg
           rw[yad (HT72.out.trans HX72.out.symm)]at hr
           have hbx:=below_own ((Below.refl wr.heap.size wr).alloc (Nat.le_refl _) (.cells ZX.toArray 81)) hg (fun k hk=>by cases hk;exact Nat.le_refl _)
           have HB3:=yh (yaa HBr.out hbx)
           have HR83:=yh (HR8r.out.below hbx)
           have HRp3:=yh (HRpr.out.below hbx)
           have HT3:=yh hr
           clear hbx
           clear hr hg)
        | ((with_reducible show wpList _ _ _ (⟨_,.load 81 (.tmp 12),_,_,_,_⟩::_) _ _);refine yac rfl 81 (.tmp 12) rfl wr.heap.size 0 (rfl) CT _ (yah HT3.out) Tryz.underlying81 rfl (by rw[yam,HT72.out]) ?_))
       refine(HSg.out _).mono ?_
       rintro _ w4 ⟨rfl,hb4⟩
       have HB4:=yh (yaa HB3.out hb4)
       have HR84:=yh (HR83.out.below hb4)
       have HRp4:=yh (HRp3.out.below hb4)
       have HT4:=yh (HT3.out.below hb4)
       clear hb4
       go_wp2_with fail
       refine wp_region_noPanic ?_
       refine wp_region_held_drew (S:=fun w'=>Below w4.heap.size w4 w') (by kernel_rfl) ((Below.refl _ _).drew) (fun gH=>?_)
       generalize w4.drew=wq at *
       refine yg 0 (.pointer (some ⟨wr.heap.size,1,none⟩)) rfl gH ?_
       simp only[Act.put,Ya,Yb,Yc,Yd,Ye,Yf]
       refine yk 1 (.int .i64 no) rfl (fun w' hSw=>by have hq:=hSw;have hd:=(HTc.out _ _ (HT4.out.below hSw)).2;go_simp) gH ?_
       refine yg 2 (.slice (some ⟨gA,oA,none⟩) n c) rfl gH ?_
       refine yg 3 (.pointer (some ⟨wr.heap.size,0,none⟩)) rfl gH ?_
       simp only[Act.put,Ya,Yb,Yc,Yd,Ye,Yf]
       refine yk 4 (.int .i64 fr) rfl (fun w' hSw=>by have hq:=hSw;have hd:=(HTc.out _ _ (HT4.out.below hSw)).1;go_simp) gH ?_
       refine yR 5 (by kernel_rfl) rfl (fun K1 hK1=>?_)
       try simp only[Act.put,Ya,Yb,Yc,Yd,Ye,Yf]
       go_simp
       refine Calls.mono (HNx.out _ (yaa HB4.out gH)) ?_
       rintro e wc1 ⟨rfl,hc2⟩
       refine hK1.out _ _ (yaa gH hc2) (fun gH=>?_)
       clear hK1 K1
       refine yg 6 (.bool true) rfl gH ?_
       refine wpAnyH_done (by kernel_rfl) ?_ _
       refine NoPanic.normal ?_
       have HB5:=yh (yaa HB4.out gH)
       have HR85:=yh (HR84.out.below gH)
       have HRp5:=yh (HRp4.out.below gH)
       clear gH
       go_wp2_with (first
        | ((with_reducible show wpList _ _ _ (⟨_,.build 64 _,_,_,_,_⟩::_) _ _);refine yak rfl 64 [] rfl (some 52) rfl _ rfl ZT.toArray HBt.out ?_)
        | (
           with_reducible show wpList _ _ _ (⟨_,.store 64 (.tmp 8) _,_,_,_,_⟩::_) _ _
           refine yab rfl 64 (.tmp 8) (.tmp 52) rfl w.heap.size 0 ZT ZT _ rfl rfl (HR85.out) (by have:=HZ68.out;have:=HZ68.out;omega) (by rw[yaf,HZ68.out]) HZ1.out ?_
           intro wz hr hg
           rw[yad (HZ68.out.trans HZ68.out.symm)]at hr
           have HS9:=yh hr
           have HB9:=yh (below_own HB5.out hg (fun k hk=>by cases hk;exact Nat.le_refl _))
           clear hr hg))
       refine bodyPost_ret (yaj rfl _ _ w.heap.size 64 ZT _ rfl HS9.out Tryz.underlying64 rfl (by rw[yaf];simp[HZ68.out]) _ rfl) rfl ⟨rfl,HB9.out⟩
     · subst hk
       have HLk:=yh h1
       clear h1 h2
       have RDt:Hid (Calls Tryz.prog 45 #[.string body] wp fun e w'=>e=.returned (.tuple #[.agg t.cells.toArray,.int .i64 0])∧Below wp.heap.size wp w'):=yh (by have:=RD.out;rw[hR]at this;exact this)
       clear RD
       have RD:=RDt
       have hto:=Tx.ycv hR
       have hfr:=Tx.ycq hto.2
       have HT72:=yh (Tx.yag hto.1)
       have HT1:=yh (Tx.yan hto.1)
       have HSg:Hid (∀W,Calls Tryz.prog 69 #[.agg t.cells.toArray] W fun e w'=>e=.returned (.int .i64 t.signedE)∧Below W.heap.size W w'):=yh (fun W=>ycb t hto.1 W hRS)
       have HTc:Hid (∀(W:World) (g:Nat),Row W g 81 t.cells→W.cell? ⟨g,0,none⟩=some (.int .i64 t.frm)∧W.cell? ⟨g,1,none⟩=some (.int .i64 t.nonce)):=yh (fun W g h=>by
        have hl:=Tx.yag hto.1
        exact⟨h.cell 0 (by omega),h.cell 1 (by omega)⟩)
       have HNx:Hid (∀W,Below w.heap.size w W→Calls Tryz.prog 23 #[.slice (some ⟨gA,oA,none⟩) n c,.int .i64 t.frm] W fun e w'=>e=.returned (.int .i64 (Od.cnt rs t.frm))∧Below W.heap.size W w'):=yh (fun W hW=>by
        have:=yci rs (some ⟨gA,oA,none⟩) c t.frm hfr.1 W ((HSl.out.below hW).mono hW.size)
        rwa[HN.out]at this)
       generalize t.cells=CT at *
       generalize t.signedE=sg at *
       generalize t.nonce=no at *
       generalize (Od.cnt rs t.frm:Int)=nn at *
       generalize t.frm=fr at *
       clear hR hto hfr
       have ds:(sg != 0)=false:=by simpa using hs
       have dn:(no != nn)=false:=by simpa using hn
       subst hs
       clear hn
       go_wp2_with fail
       refine RD.out.mono ?_
       rintro _ wr ⟨rfl,hbr⟩
       have HBr:=yh (yaa HBp.out hbr)
       have HR8r:=yh (HR8p.out.below hbr)
       have HRpr:=yh (HRpp.out.below hbr)
       clear hbr RD
       go_wp2_with (first
        | (
           with_reducible show wpList _ _ _ (⟨_,.store 81 (.tmp 12) _,_,_,_,_⟩::_) _ _
           refine yab rfl 81 (.tmp 12) (.tmp 36) rfl wr.heap.size 0 CT ZX _ rfl rfl (Row.new wr 81 ZX) (by have:=HX72.out;have:=HT72.out;omega) (by rw[yam,HT72.out]) HT1.out ?_
           intro w3 hr hg
           rw[yad (HT72.out.trans HX72.out.symm)]at hr
           have hbx:=below_own ((Below.refl wr.heap.size wr).alloc (Nat.le_refl _) (.cells ZX.toArray 81)) hg (fun k hk=>by cases hk;exact Nat.le_refl _)
           have HB3:=yh (yaa HBr.out hbx)
           have HR83:=yh (HR8r.out.below hbx)
           have HRp3:=yh (HRpr.out.below hbx)
           have HT3:=yh hr
           clear hbx
           clear hr hg)
        | ((with_reducible show wpList _ _ _ (⟨_,.load 81 (.tmp 12),_,_,_,_⟩::_) _ _);refine yac rfl 81 (.tmp 12) rfl wr.heap.size 0 (rfl) CT _ (yah HT3.out) Tryz.underlying81 rfl (by rw[yam,HT72.out]) ?_))
       refine(HSg.out _).mono ?_
       rintro _ w4 ⟨rfl,hb4⟩
       have HB4:=yh (yaa HB3.out hb4)
       have HR84:=yh (HR83.out.below hb4)
       have HRp4:=yh (HRp3.out.below hb4)
       have HT4:=yh (HT3.out.below hb4)
       clear hb4
       go_wp2_with fail
       refine wp_region_noPanic ?_
       refine wp_region_held_drew (S:=fun w'=>Below w4.heap.size w4 w') (by kernel_rfl) ((Below.refl _ _).drew) (fun gH=>?_)
       generalize w4.drew=wq at *
       refine yg 0 (.pointer (some ⟨wr.heap.size,1,none⟩)) rfl gH ?_
       simp only[Act.put,Ya,Yb,Yc,Yd,Ye,Yf]
       refine yk 1 (.int .i64 no) rfl (fun w' hSw=>by have hq:=hSw;have hd:=(HTc.out _ _ (HT4.out.below hSw)).2;go_simp) gH ?_
       refine yg 2 (.slice (some ⟨gA,oA,none⟩) n c) rfl gH ?_
       refine yg 3 (.pointer (some ⟨wr.heap.size,0,none⟩)) rfl gH ?_
       simp only[Act.put,Ya,Yb,Yc,Yd,Ye,Yf]
       refine yk 4 (.int .i64 fr) rfl (fun w' hSw=>by have hq:=hSw;have hd:=(HTc.out _ _ (HT4.out.below hSw)).1;go_simp) gH ?_
       refine yR 5 (by kernel_rfl) rfl (fun K1 hK1=>?_)
       try simp only[Act.put,Ya,Yb,Yc,Yd,Ye,Yf]
       go_simp
       refine Calls.mono (HNx.out _ (yaa HB4.out gH)) ?_
       rintro e wc1 ⟨rfl,hc2⟩
       refine hK1.out _ _ (yaa gH hc2) (fun gH=>?_)
       clear hK1 K1
       refine yg 6 (.bool false) rfl gH ?_
       refine wpAnyH_done (by kernel_rfl) ?_ _
       refine NoPanic.normal ?_
       have HB5:=yh (yaa HB4.out gH)
       have HR85:=yh (HR84.out.below gH)
       have HRp5:=yh (HRp4.out.below gH)
       clear gH
       go_wp2_with (first
        | ((with_reducible show wpList _ _ _ (⟨_,.load 62 (.tmp 10),_,_,_,_⟩::_) _ _);refine yac rfl 62 (.tmp 10) rfl (w.heap.size+1) 0 (rfl) HP _ (yah HRp5.out) Tryz.underlying62 rfl (by rw[yas,HP32.out]) ?_))
       refine(HLk.out _).mono ?_
       rintro _ wl ⟨rfl,hbl⟩
       have HBl:=yh (yaa HB5.out hbl)
       have HR8l:=yh (HR85.out.below hbl)
       clear hbl
       go_wp2_with (first
        | (
           with_reducible show wpList _ _ _ (⟨_,.store 64 (.tmp 8) _,_,_,_,_⟩::_) _ _
           refine yab rfl 64 (.tmp 8) (.tmp 60) rfl w.heap.size 0 CR ZT _ rfl rfl (HR8l.out) (by have:=HZ68.out;have:=HCR68.out;omega) (by rw[yaf,HCR68.out]) HCR1.out ?_
           intro wz hr hg
           rw[yad (HCR68.out.trans HZ68.out.symm)]at hr
           have HS9:=yh hr
           have HB9:=yh (below_own HBl.out hg (fun k hk=>by cases hk;exact Nat.le_refl _))
           clear hr hg))
       refine bodyPost_ret (yaj rfl _ _ w.heap.size 64 CR _ rfl HS9.out Tryz.underlying64 rfl (by rw[yaf];simp[HCR68.out]) _ rfl) rfl ⟨rfl,HB9.out⟩
end Go.Proofs.YtalfnadejpmjnaaGreatDoor
