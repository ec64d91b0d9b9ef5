/- A part. -/
import Derived.Test.YtalfnadejpmjnaaGreatDoorNOdLink
import Derived.Test.YtalfnadejpmjnaaGreatDoorNOdPut
import Derived.RegionTactic
import Derived.Deep.Upon
set_option linter.unusedVariables false
set_option linter.unusedSimpArgs false
set_option maxRecDepth 100000
set_option maxHeartbeats 25600000
namespace Go.Proofs.YtalfnadejpmjnaaGreatDoor
section
open Go.RowKit
namespace Od
def addR (rs:List Rp)(kind:Int)(body:ByteArray)(time:Int):Rp×Int:=if (mk rs kind body time).2.2=0 then ((mk rs kind body time).1,0) else (Rp.zero,(mk rs kind body time).2.2)
def addL (rs:List Rp)(kind:Int)(body:ByteArray)(time:Int):List Rp:=if (mk rs kind body time).2.2=0 then rs ++ [(mk rs kind body time).1] else rs
theorem yrz {rs:List Rp}(h:Good rs)(kind:Int)(body:ByteArray)(time:Int):Good (addL rs kind body time):=by
 unfold addL
 split
 · next he=>
   refine h.push (kind:=kind) (body:=body) (time:=time) (who:=(mk rs kind body time).2.1) ?_
   rw[←he]
 · exact h
end Od
theorem LogAt.put {w:World}{base B:Nat}{v dv:Value}{rs:List Rp}(h:LogAt w base B v dv rs){kind time:Int}{body:ByteArray}{r:Rp}{who:Int}(hm:Od.mk rs kind body time=(r,who,0))(hl:rs.length<1000):
 Calls Tryz.prog 93 #[.pointer (some ⟨B,0,none⟩),.agg r.cells.toArray,.int .i64 who] w fun e w'=>e=.returned (.tuple #[])∧LTo w w' base B v dv (rs ++ [r]):=by
 have ht:=Od.yfd hm
 have hf:=ht.fits h.good.head
 have hg:=h.good.push hm
 have hb:=ht.by
 rcases hg.by r (by simp)with q|q
 · rw[hb]at q
   subst q
   exact h.put_nobody r hf hg hl hb
 · rw[hb]at q
   obtain⟨k,hk⟩ :∃k:Nat,who=k:=⟨who.toNat,by omega⟩
   subst hk
   exact h.put_who r hf hg hl k hb (by omega)
theorem LTo.of {w w5 w6 w7:World}{base B g:Nat}{v dv:Value}{rs rs':List Rp}(h:LogAt w base B v dv rs)(hb:Below w.heap.size w w5)(hp:LTo w5 w6 base B v dv rs')(hg:w6.grownBy w7 (some g))(h0:w.heap.size≤g)(h5:g<w5.heap.size):LTo w w7 base B v dv rs':=by
 obtain⟨v',dv',hla,hch,hls⟩:=hp
 have hn :¬LS B v' dv' g:=fun q=>by
  rcases hls g q with q|q
  · have:=(h.lt g q).2;omega
  · omega
 have hc:Chg (fun k=>k=g) w6 w7:=Chg.yat hg (fun k hk=>by cases hk;exact .inl rfl)
 refine⟨v',dv',hla.chg hc (fun k hk e=>hn (e ▸ hk)),((Chg.ya6 (S:=LS B v dv) hb).trans hch (fun i hi=>.inl hi)).trans hc (fun i hi=>.inr (by rw[hi];exact h0)),fun k hk=>?_⟩
 rcases hls k hk with q|q
 · exact .inl q
 · exact .inr (Nat.le_trans hb.size q)
theorem LTo.row {w w':World}{base B g:Nat}{v dv:Value}{rs rs':List Rp}{T:TypeId}{xs:List Value}(h:LogAt w base B v dv rs)(hp:LTo w w' base B v dv rs')(hr:Row w g T xs)(hn :¬LS B v dv g):Row w' g T xs:=by
 obtain⟨v',dv',_,hch,_⟩:=hp
 exact hch.row hr hn
theorem LogAt.add {w:World}{base B:Nat}{v dv:Value}{rs:List Rp}(h:LogAt w base B v dv rs)(kind:Int)(body:ByteArray)(time:Int)(hs:body.size≤140737488351232)(hT:Tab w)(hl:rs.length<1000):
 Calls Tryz.prog 63 #[.pointer (some ⟨B,0,none⟩),.int .i64 kind,.string body,.int .i64 time] w fun e w'=>e=.returned (.tuple #[.agg (Od.addR rs kind body time).1.cells.toArray,.int .i64 (Od.addR rs kind body time).2])∧LTo w w' base B v dv (Od.addL rs kind body time):=by
 have hzv:=ydz
 have HBt:Hid (Tryz.prog.built 64 []=some Rp.zero.cells.toArray):=yh Rp.yaz
 have HZ68:=yh (Rp.yao Rp.yal.prev Rp.yal.hash)
 have HZ1:=yh (Rp.yan Rp.yal.prev Rp.yal.hash)
 obtain⟨ZT,hZT⟩:=yx (Rp.zero.cells)
 rw[hZT]at hzv HBt HZ68 HZ1
 have HZT:=yh hZT
 clear hZT
 have hb0:=(Below.refl w.heap.size w).alloc (Nat.le_refl _) (.cells ZT.toArray 64)
 have HB0:=yh hb0
 have HR0:=yh (Row.new w 64 ZT)
 have HH:=yh h
 have LK:=yh ((h.below hb0).link kind body time hs (hT.below hb0 hT.pos))
 obtain⟨mk,hmk⟩:=yx (Od.mk rs kind body time)
 obtain⟨r,who,ee⟩:=mk
 have hrf:r.Fits:=by
  by_cases h1:rs≠[]∧time<Od.last rs
  · rw[Od.ydq h1]at hmk;injection hmk with q;rw[←q];exact Rp.yal
  by_cases h2:(Od.ask rs kind body).2=0
  · rw[Od.ycj h1 h2]at hmk
    injection hmk with q1 q2
    injection q2 with q2 q3
    unfold Rp.linkE at q1 q3
    split at q1
    · next h3=>
      rw[if_pos h3]at q3
      have hz:ee=0:=q3.symm
      subst hz
      have hm0:Od.mk rs kind body time=(r,who,0):=by
       rw[Od.ycj h1 h2]
       unfold Rp.linkE
       rw[if_pos h3,q1,q2]
      exact(Od.yfd hm0).fits h.good.head
    · rw[←q1];exact Rp.yal
  · rw[Od.ye1 h1 h2]at hmk;injection hmk with q;rw[←q];exact Rp.yal
 have HMk:=yh hmk
 rw[hmk]at LK
 have HC68:=yh (Rp.yao hrf.prev hrf.hash)
 have HC1:=yh (Rp.yan hrf.prev hrf.hash)
 have PU:Hid (ee=0→∀W,Below w.heap.size w W→Calls Tryz.prog 93 #[.pointer (some ⟨B,0,none⟩),.agg r.cells.toArray,.int .i64 who] W fun e w'=>e=.returned (.tuple #[])∧LTo W w' base B v dv (rs ++ [r])):=yh (fun e0 W hW=>by
  subst e0
  exact(HH.out.below hW).put HMk.out hl)
 have HAr:Hid (Od.addR rs kind body time=if ee=0 then (r,0) else (Rp.zero,ee)):=yh (by unfold Od.addR;rw[hmk])
 have HAl:Hid (Od.addL rs kind body time=if ee=0 then rs ++ [r] else rs):=yh (by unfold Od.addL;rw[hmk])
 obtain⟨C,hC⟩:=yx (r.cells)
 rw[hC]at LK HC68 HC1 PU
 have HCr:=yh hC
 clear h hb0 hs hT hl hmk hrf hC
 by_cases he:ee=0
 · have PU0:=yh (PU.out he)
   subst he
   have HAr2:=HAr.out.trans (if_pos rfl)
   have HAl2:=HAl.out.trans (if_pos rfl)
   rw[HAr2,HAl2,HCr.out]
   clear HAr2 HAl2 PU
   go_enter Tryz.func63,Tryz.ntmps63
   go_wp2_with fail
   refine LK.out.mono ?_
   rintro _ w2 ⟨rfl,hb2⟩
   have HB2:=yh (yaa HB0.out hb2)
   have HR2:=yh (HR0.out.below hb2)
   clear hb2
   go_wp2_with (first
    | (
       with_reducible show wpList _ _ _ (⟨_,.store 64 (.tmp 10) _,_,_,_,_⟩::_) _ _
       refine yab rfl 64 (.tmp 10) (.tmp 22) rfl w2.heap.size 0 C ZT _ rfl rfl (Row.new w2 64 ZT) (by have:=HZ68.out;have:=HC68.out;omega) (by rw[yaf,HC68.out]) HC1.out ?_
       intro w3 hr hg
       rw[yad (HC68.out.trans HZ68.out.symm)]at hr
       have hbx:=below_own ((Below.refl w2.heap.size w2).alloc (Nat.le_refl _) (.cells ZT.toArray 64)) hg (fun k hk=>by cases hk;exact Nat.le_refl _)
       have HB3:=yh (yaa HB2.out hbx)
       have HR3:=yh (HR2.out.below hbx)
       have HX3:=yh hr
       have H23:Hid (w2.heap.size<w3.heap.size∧w.heap.size≤w2.heap.size):=yh ⟨hr.lt,HB2.out.size⟩
       clear hbx
       clear hr hg)
    | ((with_reducible show wpList _ _ _ (⟨_,.load 64 (.tmp 10),_,_,_,_⟩::_) _ _);refine yac rfl 64 (.tmp 10) rfl w2.heap.size 0 (rfl) C _ (yah HX3.out) Tryz.underlying64 rfl (by rw[yaf,HC68.out]) ?_))
   refine(PU0.out _ HB3.out).mono ?_
   rintro _ w4 ⟨rfl,hp4⟩
   have hn8 :¬LS B v dv w.heap.size:=fun q=>by have:=(HH.out.lt _ q).2;omega
   have hn2 :¬LS B v dv w2.heap.size:=fun q=>by have:=(HH.out.lt _ q).2;have:=H23.out;omega
   have HR4:=yh (hp4.row (HH.out.below HB3.out) HR3.out hn8)
   have HX4:=yh (hp4.row (HH.out.below HB3.out) HX3.out hn2)
   have HP4:=yh hp4
   clear hp4 hn8 hn2
   go_wp2_with (first
    | ((with_reducible show wpList _ _ _ (⟨_,.load 64 (.tmp 10),_,_,_,_⟩::_) _ _);refine yac rfl 64 (.tmp 10) rfl w2.heap.size 0 (rfl) C _ (yah HX4.out) Tryz.underlying64 rfl (by rw[yaf,HC68.out]) ?_)
    | (
       with_reducible show wpList _ _ _ (⟨_,.store 64 (.tmp 8) _,_,_,_,_⟩::_) _ _
       refine yab rfl 64 (.tmp 8) (.tmp 33) rfl w.heap.size 0 C ZT _ rfl rfl (HR4.out) (by have:=HZ68.out;have:=HC68.out;omega) (by rw[yaf,HC68.out]) HC1.out ?_
       intro w9 hr hg
       rw[yad (HC68.out.trans HZ68.out.symm)]at hr
       have HS9:=yh hr
       have HF9:=yh (LTo.of HH.out HB3.out HP4.out hg (Nat.le_refl _) (by have:=H23.out;omega))
       clear hr hg))
   refine bodyPost_ret (yaj rfl _ _ w.heap.size 64 C _ rfl HS9.out Tryz.underlying64 rfl (by rw[yaf];simp[HC68.out]) _ rfl) rfl ⟨rfl,HF9.out⟩
 · have dE:(ee != 0)=true:=by simpa using he
   have HAr2:=HAr.out.trans (if_neg he)
   have HAl2:=HAl.out.trans (if_neg he)
   rw[HAr2,HAl2]
   rw[HZT.out]
   clear HAr2 HAl2 PU he
   go_enter Tryz.func63,Tryz.ntmps63
   go_wp2_with fail
   refine LK.out.mono ?_
   rintro _ w2 ⟨rfl,hb2⟩
   have HB2:=yh (yaa HB0.out hb2)
   have HR2:=yh (HR0.out.below hb2)
   clear hb2
   go_wp2_with (first
    | (
       with_reducible show wpList _ _ _ (⟨_,.store 64 (.tmp 10) _,_,_,_,_⟩::_) _ _
       refine yab rfl 64 (.tmp 10) (.tmp 22) rfl w2.heap.size 0 C ZT _ rfl rfl (Row.new w2 64 ZT) (by have:=HZ68.out;have:=HC68.out;omega) (by rw[yaf,HC68.out]) HC1.out ?_
       intro w3 hr hg
       rw[yad (HC68.out.trans HZ68.out.symm)]at hr
       have hbx:=below_own ((Below.refl w2.heap.size w2).alloc (Nat.le_refl _) (.cells ZT.toArray 64)) hg (fun k hk=>by cases hk;exact Nat.le_refl _)
       have HB3:=yh (yaa HB2.out hbx)
       have HR3:=yh (HR2.out.below hbx)
       have HX3:=yh hr
       have H23:Hid (w2.heap.size<w3.heap.size∧w.heap.size≤w2.heap.size):=yh ⟨hr.lt,HB2.out.size⟩
       clear hbx
       clear hr hg)
    | ((with_reducible show wpList _ _ _ (⟨_,.build 64 _,_,_,_,_⟩::_) _ _);refine yak rfl 64 [] rfl (some 27) rfl _ rfl ZT.toArray HBt.out ?_)
    | (
       with_reducible show wpList _ _ _ (⟨_,.store 64 (.tmp 8) _,_,_,_,_⟩::_) _ _
       refine yab rfl 64 (.tmp 8) (.tmp 27) rfl w.heap.size 0 ZT ZT _ rfl rfl (HR3.out) (by have:=HZ68.out;have:=HZ68.out;omega) (by rw[yaf,HZ68.out]) HZ1.out ?_
       intro w9 hr hg
       rw[yad (HZ68.out.trans HZ68.out.symm)]at hr
       have HS9:=yh hr
       have HB9:=yh (below_own HB3.out hg (fun k hk=>by cases hk;exact Nat.le_refl _))
       clear hr hg))
   refine bodyPost_ret (yaj rfl _ _ w.heap.size 64 ZT _ rfl HS9.out Tryz.underlying64 rfl (by rw[yaf];simp[HZ68.out]) _ rfl) rfl ⟨rfl,HH.out.to HB9.out⟩
theorem yh6 (w:World):Calls Tryz.prog 47 #[] w fun e w'=>e=.returned (.pointer (some ⟨w.heap.size,0,none⟩))∧LogAt w' w.heap.size w.heap.size (.slice none 0 0) (.slice none 0 0) []∧Below w.heap.size w w':=by
 have hbu:Tryz.prog.built 110 []=some (.slice none 0 0::(Is (Od.nexts []) ++ [.slice none 0 0])).toArray:=by kernel_rfl
 have HR:=yh (Row.new w 110 (.slice none 0 0::(Is (Od.nexts []) ++ [.slice none 0 0])))
 have HB:=yh ((Below.refl w.heap.size w).alloc (Nat.le_refl _) (.cells (.slice none 0 0::(Is (Od.nexts []) ++ [.slice none 0 0])).toArray 110))
 obtain⟨CL,hCL⟩:=yx ((Value.slice none 0 0::(Is (Od.nexts []) ++ [.slice none 0 0])))
 rw[hCL]at hbu HR HB
 have HCL:=yh hCL
 have HBt:=yh hbu
 clear hCL hbu
 go_enter Tryz.func47,Tryz.ntmps47
 go_wp2_with (first|((with_reducible show wpList _ _ _ (⟨_,.build 110 _,_,_,_,_⟩::_) _ _);refine yak rfl 110 [] rfl (some 1) rfl _ rfl CL.toArray HBt.out ?_))
 go_ret
 exact⟨rfl,⟨by rw[HCL.out];exact HR.out,OwnL.nil _ _ _ _ _,OwnL.nil _ _ _ _ _,Od.Good.nil,by simp,Nat.le_refl _⟩,HB.out⟩
end
section
open Go.RowKit
theorem yhh {B:Nat}{a w:World}(h:Below B a w)(n:Nat):Below B a (w.drewN n):=by
 exact⟨h.os,h.tape,h.output,h.size,h.block⟩
theorem ynf (ba bx g n c k:Nat)(d x:Int)(W:World)(hk:k<n)(ha:W.cell? ⟨ba,0,none⟩=some (.slice (some ⟨g,0,none⟩) n c))(hx:W.cell? ⟨bx,0,none⟩=some (.int .i64 x))(hc:W.cell? ⟨g,k,none⟩=some (.int .i64 d)):
 Calls Tryz.prog 103 #[.int .i64 k,.pointer (some ⟨ba,0,none⟩),.pointer (some ⟨bx,0,none⟩)] W fun e w'=>e=.returned (.bool (decide (x≤d)))∧Below W.heap.size W w':=by
 have hkn:(k:Int)<(n:Int):=by omega
 have hk0:(0:Int)≤(k:Int):=by omega
 have hc':W.cell? ⟨g,0+k,none⟩=some (.int .i64 d):=by rw[Nat.zero_add];exact hc
 clear hk
 go_enter Tryz.func103,Tryz.ntmps103
 go_wp2_with fail
 go_region
 all_goals go_wp2_with fail
 all_goals go_ret
 all_goals exact⟨by first|rfl|simp,yhh (Below.refl _ _) _⟩
def Od.lt (l:List Int)(x:Int):Nat:=l.countP (fun y=>decide (y<x))
theorem Od.lt_at {l:List Int}{x:Int}{i:Nat}(hi:i≤l.length)(h1 :∀k (hk:k<l.length),k<i→l[k]<x)(h2 :∀k (hk:k<l.length),i≤k→x≤l[k]):i=Od.lt l x:=by
 unfold Od.lt
 conv=>rhs;rw[←List.take_append_drop i l]
 rw[List.countP_append]
 have e1:(l.take i).countP (fun y=>decide (y<x))=i:=by
  rw[List.countP_eq_length.2,List.length_take,Nat.min_eq_left hi]
  intro a ha
  obtain⟨k,hk,rfl⟩:=List.getElem_of_mem ha
  rw[List.length_take]at hk
  rw[List.getElem_take]
  exact decide_eq_true (h1 k (by omega) (by omega))
 have e2:(l.drop i).countP (fun y=>decide (y<x))=0:=by
  rw[List.countP_eq_zero]
  intro a ha
  obtain⟨k,hk,rfl⟩:=List.getElem_of_mem ha
  rw[List.length_drop]at hk
  rw[List.getElem_drop]
  have:=h2 (i+k) (by omega) (by omega)
  simp
  omega
 rw[e1,e2]
 rfl
theorem yjs (l:List Int)(hs:l.Pairwise (·≤·))(ba bx c:Nat)(A:Option Addr)(x:Int)(w:World)(hn0:l.length≤1000000)
 (ha:w.cell? ⟨ba,0,none⟩=some (.slice A l.length c)) (hx:w.cell? ⟨bx,0,none⟩=some (.int .i64 x))
 (hA :∀k (hk:k<l.length),∃g,A=some ⟨g,0,none⟩∧g<w.heap.size∧w.cell? ⟨g,k,none⟩=some (.int .i64 l[k])):
 Calls Tryz.prog 102 #[.int .i64 l.length,.func (.func 103) #[] #[.pointer (some ⟨ba,0,none⟩),.pointer (some ⟨bx,0,none⟩)]] w fun e w'=>e=.returned (.int .i64 (Od.lt l x))∧Below w.heap.size w w':=by
 have hba:ba<w.heap.size:=World.block_lt_of_cell? _ _ ha
 have hbx:bx<w.heap.size:=World.block_lt_of_cell? _ _ hx
 have F1:Hid (∀(W:World),Below w.heap.size w W→∀(k:Nat) (hk:k<l.length),Calls Tryz.prog 103 #[.int .i64 k,.pointer (some ⟨ba,0,none⟩),.pointer (some ⟨bx,0,none⟩)] W fun e w'=>e=.returned (.bool (decide (x≤l[k])))∧Below W.heap.size W w'):=yh (fun W hb k hk=>by
  obtain⟨g,e,hg,hc⟩:=hA k hk
  subst e
  exact ynf ba bx g l.length c k l[k] x W hk ((hb.cell (p:=⟨ba,0,none⟩) hba).trans ha) ((hb.cell (p:=⟨bx,0,none⟩) hbx).trans hx) ((hb.cell (p:=⟨g,k,none⟩) hg).trans hc))
 have HS:=yh hs
 obtain⟨n,hn⟩ :∃n,n=l.length:=⟨_,rfl⟩
 have HN:=yh hn
 rw[←hn]at hn0 ⊢
 obtain⟨p,hp⟩:=yx (Od.lt l x)
 rw[hp]
 have HPp:=yh hp
 clear hs hA ha hx hba hbx hn hp
 go_enter Tryz.func102,Tryz.ntmps102
 go_wp2_with fail
 go_loopw [5,6] (fun si sj wr =>∃i j:Nat,i≤j∧j≤n∧si=.int .i64 i∧sj=.int .i64 j∧(∀k (hk:k<l.length),k<i→l[k]<x)∧(∀k (hk:k<l.length),j≤k→x≤l[k])∧Below w.heap.size w wr) (fun si sj _=>(intOf sj).toNat-(intOf si).toNat)
 case atStart=>exact⟨0,n,Nat.zero_le _,Nat.le_refl _,rfl,rfl,fun k hk h=>by omega,fun k hk h=>by have:=HN.out;omega,Below.refl _ _⟩
 case round=>
  obtain⟨i,j,hij,hjn,rfl,rfl,h1,h2,hb⟩:=hrel
  have H1:=yh h1
  have H2:=yh h2
  have HB:=yh hb
  clear h1 h2 hb
  by_cases hlt:i<j
  · have hlti:(i:Int)<(j:Int):=by omega
    obtain⟨m,hm⟩ :∃m,m=(i+j) / 2:=⟨_,rfl⟩
    have hmi:i≤m:=by omega
    have hmj:m<j:=by omega
    have e1:IntKind.i64.wrap ((i:Int)+j)=((i+j:Nat):Int):=by rw[IntWalk.i64_in _ (by omega)];omega
    have e2:IntKind.u64.wrap ((i+j:Nat):Int)=((i+j:Nat):Int):=by unfold IntKind.wrap;simp[IntKind.bits,IntKind.signed];omega
    have hml:m<l.length:=by have:=HN.out;omega
    have FX:=yh (F1.out wr HB.out m hml)
    obtain⟨r,hr⟩:=yx (l[m])
    rw[hr]at FX
    have HR:Hid (∃h:m<l.length,l[m]=r):=yh ⟨hml,hr⟩
    have em:((i:Int)+(j:Int)) / 2=(m:Int):=by omega
    have em':(i+j) / 2=m:=hm.symm
    clear hm hr hml
    by_cases hr0:x≤r
    · have dr:decide (x≤r)=true:=decide_eq_true hr0
      rw[dr]at FX
      have HX:=yh hr0
      clear hr0 dr
      go_wp2_with fail
      refine(FX.out).mono ?_
      rintro _ w3 ⟨rfl,hb3⟩
      have HB3:=yh (yaa HB.out hb3)
      clear hb3
      go_wp2_with fail
      refine⟨⟨i,m,hmi,by omega,rfl,rfl,H1.out,fun k hk hkm=>?_,HB3.out⟩,by simp[intOf];omega⟩
      rcases Nat.lt_or_ge m k with q|q
      · have h5:=List.pairwise_iff_getElem.1 HS.out m k HR.out.1 hk q
        have:=HX.out
        obtain⟨_,this⟩:=HR.out
        omega
      · have:k=m:=by omega
        subst this
        rw[HR.out.2]
        exact HX.out
    · have dr:decide (x≤r)=false:=decide_eq_false hr0
      rw[dr]at FX
      have HX:=yh hr0
      clear hr0 dr
      go_wp2_with fail
      refine(FX.out).mono ?_
      rintro _ w3 ⟨rfl,hb3⟩
      have HB3:=yh (yaa HB.out hb3)
      clear hb3
      go_wp2_with fail
      refine⟨⟨m+1,j,by omega,hjn,by go_num,rfl,fun k hk hkm=>?_,H2.out,HB3.out⟩,by simp[intOf];omega⟩
      rcases Nat.lt_or_ge k m with q|q
      · have h5:=List.pairwise_iff_getElem.1 HS.out k m hk HR.out.1 q
        have:=HX.out
        obtain⟨_,this⟩:=HR.out
        omega
      · have:k=m:=by omega
        subst this
        rw[HR.out.2]
        have:=HX.out
        omega
  · have hij':j=i:=by omega
    have hlti :¬(i:Int)<(j:Int):=by omega
    have hp:i=Od.lt l x:=Od.lt_at (by have:=HN.out;omega) H1.out (fun k hk h=>by have:=H2.out k hk (by omega);omega)
    have hp':i=p:=hp.trans HPp.out
    subst hp'
    subst hij'
    clear hp hlt HPp
    go_wp2_with fail
    go_ret
    exact⟨rfl,HB.out⟩
theorem yk6 (l:List Int)(hs:l.Pairwise (·≤·))(c:Nat)(A:Option Addr)(x:Int)(w:World)(hn0:l.length≤1000000)
 (hA :∀k (hk:k<l.length),∃g,A=some ⟨g,0,none⟩∧g<w.heap.size∧w.cell? ⟨g,k,none⟩=some (.int .i64 l[k])):
 Calls Tryz.prog 72 #[.slice A l.length c,.int .i64 x] w fun e w'=>e=.returned (.int .i64 (Od.lt l x))∧Below w.heap.size w w':=by
 obtain⟨W,hW⟩ :∃W,W=(w.alloc (.cells #[.slice A l.length c] 45)).alloc (.cells #[.int .i64 x] 3):=⟨_,rfl⟩
 have hb:Below w.heap.size w W:=by rw[hW];exact((Below.refl _ w).alloc (Nat.le_refl _) _).alloc (by simp) _
 have hr1:Row W w.heap.size 45 [.slice A l.length c]:=by rw[hW];exact(Row.new w 45 [.slice A l.length c]).below ((Below.refl _ _).alloc (Nat.le_refl _) _)
 have hr2:Row W (w.heap.size+1) 3 [.int .i64 x]:=by rw[hW];have:=Row.new (w.alloc (.cells #[.slice A l.length c] 45)) 3 [.int .i64 x];rwa[show (w.alloc (.cells #[.slice A l.length c] 45)).heap.size=w.heap.size+1 by simp]at this
 have CS:=yh (yjs l hs w.heap.size (w.heap.size+1) c A x W hn0 (rowX hr1) (rowX hr2) (fun k hk=>by
  obtain⟨g,e,hg,hc⟩:=hA k hk
  exact⟨g,e,Nat.lt_of_lt_of_le hg hb.size,(hb.cell (p:=⟨g,k,none⟩) hg).trans hc⟩))
 have HB:=yh hb
 have HW:=yh hW
 clear hs hA hb hr1 hr2 hW hn0
 generalize Od.lt l x=p at *
 generalize l.length=n at *
 go_enter Tryz.func72,Tryz.ntmps72
 go_wp2_with fail
 rw[←HW.out]
 refine CS.out.mono ?_
 rintro _ w3 ⟨rfl,hb3⟩
 have HB3:=yh (yaa HB.out hb3)
 clear hb3
 go_wp2_with fail
 go_ret
 exact⟨rfl,HB3.out⟩
theorem Od.Good.del_sorted {rs:List Rp}(h:Od.Good rs):(Od.del rs).Pairwise (·≤·):=by
 unfold Od.del
 rw[List.pairwise_map]
 refine List.Pairwise.filter _ ?_
 rw[List.pairwise_iff_getElem]
 intro i j hi hj hij
 rw[h.index i hi,h.index j hj]
 omega
def Od.taken (rs:List Rp)(i:Int):Nat:=Od.lt (Od.del rs) i
theorem LogAt.taken {w:World}{base B:Nat}{v dv:Value}{rs:List Rp}(h:LogAt w base B v dv rs)(i:Int):
 Calls Tryz.prog 43 #[.pointer (some ⟨B,0,none⟩),.int .i64 i] w fun e w'=>e=.returned (.int .i64 (Od.taken rs i))∧Below w.heap.size w w':=by
 obtain⟨A,c,rfl,_,_⟩:=h.dow.form
 have c65:=h.c65
 have hl:=h.len
 have hdl:=Od.yja rs
 have CS:=yh (yk6 (Od.del rs) h.good.del_sorted c A i w (by omega) (fun k hk=>by
  obtain⟨g,c',hge,_,hgl⟩:=h.dow.ne (by intro e;rw[e]at hk;simp at hk)
  injection hge with ea eb ec
  subst ea
  have:=h.dow.cell (fun x hx=>rfl) k hk 0 (.int .i64 (Od.del rs)[k]) rfl
  rw[Nat.mul_one,Nat.add_zero]at this
  exact⟨g,rfl,hgl,this⟩))
 unfold Od.taken
 clear h hl hdl
 generalize Od.lt (Od.del rs) i=p at *
 generalize (Od.del rs).length=n at *
 go_enter Tryz.func43,Tryz.ntmps43
 go_wp2_with fail
 refine CS.out.mono ?_
 rintro _ w3 ⟨rfl,hb3⟩
 have HB3:=yh hb3
 clear hb3
 go_wp2_with fail
 go_ret
 exact⟨rfl,HB3.out⟩
end
section
open Go.RowKit
def SlR (w:World)(B:Nat)(A:Option Addr)(c:Nat)(l:List Rp):Prop:=(l≠[]→∃g off,A=some ⟨g,off,none⟩∧g<B∧∀i (h:i<l.length),w.rangeAt g (off+i*68) l[i].cells)∧(A=none→l=[]∧c=0)∧l.length≤c∧l.length≤1000000∧∀b∈l,b.Fits
theorem SlR.below {w w':World}{B:Nat}{A:Option Addr}{c:Nat}{l:List Rp}(h:SlR w B A c l)(hb:Below B w w'):SlR w' B A c l:=
 ⟨fun h0=>by
  obtain⟨g,off,e,hg,hat⟩:=h.1 h0
  exact⟨g,off,e,hg,fun i hi q u hu=>(hb.cell (p:=⟨g,off+i*68+q,none⟩) hg).trans (hat i hi q u hu)⟩,h.2⟩
theorem SlR.mono {w:World}{B B':Nat}{A:Option Addr}{c:Nat}{l:List Rp}(h:SlR w B A c l)(hB:B≤B'):SlR w B' A c l:=
 ⟨fun h0=>by
  obtain⟨g,off,e,hg,hat⟩:=h.1 h0
  exact⟨g,off,e,by omega,hat⟩,h.2⟩
theorem yoh {l:List Rp}(hf :∀b∈l,b.Fits) :∀u∈Rw.flat Rp.cells l,u.oneCell'=true:=fun u hu=>by
 obtain⟨y,hy,hyu⟩:=List.mem_flatMap.1 hu
 exact Rp.yan (hf y hy).prev (hf y hy).hash u hyu
theorem yhv {w:World}{g:Nat} :∀(l:List Rp) (off:Nat),(∀i (h:i<l.length),w.rangeAt g (off+i*68) l[i].cells)→(∀y∈l,y.cells.length=68)→w.rangeAt g off (Rw.flat Rp.cells l)
 | [],off,_,_=>fun j v hv=>by simp[Rw.flat]at hv
 | x::r,off,h,hl=>fun j v hv=>by
   have hc:=hl x (by simp)
   have hv:(x.cells++Rw.flat Rp.cells r)[j]? = some v:=hv
   by_cases hj:j<68
   · rw[List.getElem?_append_left (by omega)]at hv
     have:=h 0 (by simp) j v hv
     rwa[Nat.zero_mul,Nat.add_zero]at this
   · rw[List.getElem?_append_right (by omega),hc]at hv
     have:=yhv r (off+68) (fun i hi=>by
      have:=h (i+1) (by simpa using hi)
      rw[show off+68+i*68=off+(i+1)*68 by omega]
      simpa using this) (fun y hy=>hl y (by simp[hy])) (j-68) v hv
     rwa[show off+68+(j-68)=off+j by omega]at this
theorem ynk:(Tryz.prog.info? 64).map (fun i=>(i.zero,i.size,i.bytes))=some (some (.agg Rp.zero.cells.toArray),68,104):=by kernel_rfl
theorem yil {ops:Array Oper}{rest:List Oper}{o2:Oper}{a:Act}{w:World}{Q:Exit→Act→World→Prop}(hg2:o2.guard=none)(sl y:Operand)
 (ho2:o2.op=.call { callee:=.builtin .append,args:=#[sl,y],argTypes:=#[29,29] })
 (t2:List Rp) (A2:Option Addr) (c2:Nat) (hin:SlR w w.heap.size A2 c2 t2) (base:Nat) (v:Value) (l:List Rp) (hown:OwnL w base 64 68 Rp.cells v l) (hbase:base≤w.heap.size) (hlen:l.length≤1000000)
 (hs:a.eval sl=v) (hy:a.eval y=.slice A2 t2.length c2)
 (K :∀v' w',OwnL w' base 64 68 Rp.cells v' (l++t2)→Chg (fun k=>v.ownBlock=some k) w w'→(∀k,v'.ownBlock=some k→v.ownBlock=some k∨w.heap.size≤k)→wpList Tryz.prog ops Q rest (a.put o2.dst v') w'):
 wpList Tryz.prog ops Q (o2::rest) a w:=by
 obtain⟨i0,hi,h2⟩:=Option.map_eq_some_iff.1 ynk
 simp only[Prod.mk.injEq]at h2
 obtain⟨hz,hsz,hby⟩:=h2
 have hz68:Rp.zero.cells.length=68:=Rp.yao Rp.yal.prev Rp.yal.hash
 by_cases h0:t2=[]
 · subst h0
   obtain⟨A,c,rfl,hlc,_⟩:=hown.form
   refine wpList_plain hg2 fun _ hK=>?_
   have hr:=fun ty=>run_append_nothing (P:=Tryz.prog) w 29 29 ty 64 i0 Tryz.underlying29 hi A l.length c hlc (.slice A2 0 c2) (by
    cases A2 with
    | none=>exact Src.ofNil w Tryz.underlying29 c2
    | some q=>exact Src.ofSlice w Tryz.underlying29 q 0 c2 [] (by simp) (by simp) (by simp))
   unfold Oper.wp execOp
   simp only[ho2,resolve,invoke,builtin,Sem.run_bind,Sem.run_pure,Result.andThen_ok,List.map_toArray,List.map_cons,List.map_nil,hs,hy,List.length_nil,hr]
   exact hK _ _ (K _ _ (by rw[List.append_nil];exact hown) (Chg.refl _ _) (fun k hk=>.inl hk))
 · obtain⟨g,off,e,hg,hat⟩:=hin.1 h0
   subst e
   have hl68 :∀y∈t2,y.cells.length=68:=fun y hy=>Rp.yao (hin.2.2.2.2 y hy).prev (hin.2.2.2.2 y hy).hash
   have hpos:0<t2.length:=List.length_pos_iff.2 h0
   have hlen2:=hin.2.2.2.1
   refine ycn hg2 sl y 29 ho2 base 64 i0 (.agg Rp.zero.cells.toArray) 68 104 Tryz.underlying29 hi hz hsz hby (by simpa[Value.cells] using hz68) (by decide) v l.length (Rw.flat Rp.cells l) hs hown.own ⟨g,off,none⟩ t2.length c2 (Rw.flat Rp.cells t2) hy (Rw.ye5 hl68) (fun j u hu=>?_) (yoh hin.2.2.2.2) hpos (by unfold maxLen;omega) (by omega) hbase (fun v' w' ho hg hat=>K v' w' ⟨by rw[Rw.yej,List.length_append];exact ho⟩ ?_ ?_)
   · have e:(⟨g,off,none⟩:Addr).add j=⟨g,off+j,none⟩:=by unfold Addr.add;split <;> simp_all
     rw[e]
     exact yhv t2 off hat hl68 j u hu
   · exact Chg.yat (S:=fun k=>v.ownBlock=some k) hg (fun k hk=>.inl hk)
   · intro k hk
     rcases hat with q|q
     · exact .inl (q ▸ hk)
     · rw[q]at hk
       cases hk
       exact .inr (Nat.le_refl _)
theorem yel (A:Option Addr)(c:Nat)(l:List Rp)(w:World)(hin:SlR w w.heap.size A c l):
 Calls Tryz.prog 71 #[.slice A l.length c] w fun e w'=>(∃v,e=.returned v∧OwnL w' w.heap.size 64 68 Rp.cells v l)∧Below w.heap.size w w':=by
 cases A with
 | none=>
   obtain⟨rfl,rfl⟩:=hin.2.1 rfl
   clear hin
   have heq:=fun W:World=>Lib.run_eql_slice_nil (P:=Tryz.prog) W 29 64 none 0 0 0 0 Tryz.underlying29
   go_enter Tryz.func71,Tryz.ntmps71
   go_wp2_with fail
   go_ret
   exact⟨⟨_,rfl,OwnL.nil _ _ _ _ _⟩,Below.refl _ _⟩
 | some a=>
   have hown0:OwnL (w.alloc (.cells #[] 64)) w.heap.size 64 68 Rp.cells (.slice (some ⟨w.heap.size,0,none⟩) 0 0) []:=⟨rfl,.inr ⟨w.heap.size,0,#[],rfl,Nat.le_refl _,heap_alloc_new _ _,Nat.le_refl _,Nat.zero_le _,rfl,rfl⟩⟩
   have hb0:=(Below.refl w.heap.size w).alloc (Nat.le_refl _) (.cells #[] 64)
   have HO0:=yh hown0
   have Hb0:=yh hb0
   have HS0:=yh ((hin.below hb0).mono hb0.size)
   obtain⟨n,hn⟩:=yx (l.length)
   have HM:=yh hn
   rw[hn]
   have heq:=fun W:World=>Lib.run_eql_slice_nil (P:=Tryz.prog) W 29 64 (some a) n c 0 0 Tryz.underlying29
   clear hin hown0 hb0 hn
   go_enter Tryz.func71,Tryz.ntmps71
   go_wp2_with (first
    | ((with_reducible show wpList _ _ _ (⟨_, .call { callee := .builtin .append, args := #[.tmp 5, .tmp 6], argTypes := _ }, _, _, _, _⟩ :: _) _ _)
       refine yil rfl (.tmp 5) (.tmp 6) rfl l (some a) c HS0.out w.heap.size _ [] HO0.out Hb0.out.size (by simp) rfl (by rw[HM.out];rfl) ?_
       intro v9 w9 ho9 hc9 hk9
       have HO9:=yh ho9
       have HB9:=yh (ybt Hb0.out hc9 Hb0.out.size (fun k hk=>by cases hk;exact Nat.le_refl _))
       clear ho9 hc9 hk9))
   go_ret
   exact⟨⟨_,rfl,HO9.out⟩,HB9.out⟩
theorem LogAt.slR {w:World}{base B n c:Nat}{A:Option Addr}{dv:Value}{rs:List Rp}(h:LogAt w base B (.slice A n c) dv rs)(lo:Nat)(hlo:lo≤rs.length):
 SlR w w.heap.size (if c=lo then A else A.map (fun x=>x.add (lo*68))) (c-lo) (rs.drop lo):=by
 have hl:=h.len
 have hc:rs.length≤c:=by
  obtain⟨A',c',e,h1,_⟩:=h.own.form
  injection e with e1 e2 e3
  omega
 refine⟨fun h0=>?_,fun e=>?_,by rw[List.length_drop];omega,by rw[List.length_drop];omega,fun b hb=>h.fits b (List.mem_of_mem_drop hb)⟩
 · have hlt:lo<rs.length:=by
    rcases Nat.lt_or_ge lo rs.length with q|q
    · exact q
    · exact absurd (List.drop_of_length_le q) h0
   obtain⟨g,c',hge,_,hgl⟩:=h.own.ne (by intro e;rw[e]at hlt;simp at hlt)
   injection hge with ea eb ec
   subst ea
   subst ec
   subst eb
   refine⟨g,lo*68,by rw[if_neg (by omega)];show some (Addr.add _ _)=_;rw[add_at,Nat.zero_add],hgl,fun i hi=>?_⟩
   rw[List.length_drop]at hi
   rw[List.getElem_drop,show lo*68+i*68=(lo+i)*68 by omega]
   exact h.own.at (Rp.lens h.fits) (lo+i) (by omega)
 · have e2:A=none:=by
    split at e
    · exact e
    · cases A with
      | none=>rfl
      | some q=>cases e
   subst e2
   rcases h.own.own.2 with⟨e3,hn⟩|⟨g,cap,cur,e3,_⟩
   · injection e3 with e1 e2 e3
     have e4:=List.length_eq_zero_iff.1 hn
     subst e4
     exact⟨by simp,by omega⟩
   · injection e3 with e1 e2 e3
     cases e1
def Od.lo (n:Nat)(i:Int):Nat:=if i<0 then 0 else if i≤(n:Int) then i.toNat else n
theorem LogAt.from_a {w:World}{base B:Nat}{v dv:Value}{rs:List Rp}(h:LogAt w base B v dv rs)(i:Int)(h1:i<0):
 Calls Tryz.prog 39 #[.pointer (some ⟨B,0,none⟩),.int .i64 i] w fun e w'=>(∃u,e=.returned u∧OwnL w' w.heap.size 64 68 Rp.cells u (rs.drop 0))∧Below w.heap.size w w':=by
 obtain⟨A,c,rfl⟩:=h.form
 have HC0:Hid (∀W,Below w.heap.size w W→W.cell? ⟨B,0,none⟩=some (.slice A rs.length c)):=yh (fun W hW=>(h.below hW).c0)
 obtain⟨V,HV⟩:=yx (Value.slice (if c=0 then A else Option.map (fun x=>x.add (0*68)) A) (rs.length-0) (c-0))
 have CL:Hid (∀W,Below w.heap.size w W→Calls Tryz.prog 71 #[V] W fun e w'=>(∃u,e=.returned u∧OwnL w' W.heap.size 64 68 Rp.cells u (rs.drop 0))∧Below W.heap.size W w'):=yh (fun W hW=>by
  have:=yel _ _ _ W ((h.below hW).slR 0 (by omega))
  rw[List.length_drop,HV]at this
  exact this)
 generalize rs.drop 0=RD at *
 clear h
 generalize rs.length=n at *
 obtain rfl:Value.slice A n c=V:=by simpa[yrw] using HV
 clear HV
 go_enter Tryz.func39,Tryz.ntmps39
 go_wp2_with fail
 refine wp_region_held_drew (S:=fun w'=>Below w.heap.size w w') (by kernel_rfl) ((Below.refl _ _).drew) (fun gH=>?_)
 generalize w.drew=wq at *
 refine yg 0 (.pointer (some ⟨B,0,none⟩)) rfl gH ?_
 refine yg 1 (.pointer (some ⟨B,0,none⟩)) rfl gH ?_
 refine yg 2 (.pointer (some ⟨B,0,none⟩)) rfl gH ?_
 simp only[Act.put,Ya,Yb,Yc,Yd,Ye,Yf]
 refine yk 3 (.slice A n c) rfl (fun w' hSw=>by have hq:=hSw;have hd:=HC0.out _ hq;go_simp) gH ?_
 refine yg 4 (.int .i64 i) rfl gH ?_
 refine yk 5 (.int .i64 0) rfl (fun w' hSw=>by have hq:=hSw;have hd:max i 0=0:=(by omega);go_simp) gH ?_
 simp only[Act.put,Ya,Yb,Yc,Yd,Ye,Yf]
 refine yg 6 (.pointer (some ⟨B,0,none⟩)) rfl gH ?_
 refine yg 7 (.pointer (some ⟨B,0,none⟩)) rfl gH ?_
 refine yg 8 (.pointer (some ⟨B,0,none⟩)) rfl gH ?_
 simp only[Act.put,Ya,Yb,Yc,Yd,Ye,Yf]
 refine yk 9 (.slice A n c) rfl (fun w' hSw=>by have hq:=hSw;have hd:=HC0.out _ hq;go_simp) gH ?_
 refine yg 10 (.int .i64 n) rfl gH ?_
 refine yk 11 (.int .i64 0) rfl (fun w' hSw=>by have hq:=hSw;have hd:min (0:Int) (n:Int)=0:=(by omega);go_simp) gH ?_
 simp only[Act.put,Ya,Yb,Yc,Yd,Ye,Yf]
 refine yg 12 (.slice A n c) rfl gH ?_
 refine yR 13 (by kernel_rfl) rfl (fun K1 hK1=>?_)
 try simp only[Act.put,Ya,Yb,Yc,Yd,Ye,Yf]
 go_simp
 refine Calls.mono (CL.out _ gH) ?_
 rintro e wc1 ⟨⟨vv,rfl,ho9⟩,hc2⟩
 have HO9:=yh (ho9.mono gH.size)
 clear ho9
 refine hK1.out _ _ (yaa gH hc2) (fun gH=>?_)
 clear hK1 K1
 refine yg 14 (vv) rfl gH ?_
 refine wpAnyH_done (by kernel_rfl) ?_ _
 go_wp2_with fail
 go_ret
 exact⟨⟨_,rfl,HO9.out⟩,gH⟩
theorem LogAt.from_b {w:World}{base B:Nat}{v dv:Value}{rs:List Rp}(h:LogAt w base B v dv rs)(k:Nat)(hk:k≤rs.length):
 Calls Tryz.prog 39 #[.pointer (some ⟨B,0,none⟩),.int .i64 (k:Int)] w fun e w'=>(∃u,e=.returned u∧OwnL w' w.heap.size 64 68 Rp.cells u (rs.drop k))∧Below w.heap.size w w':=by
 obtain⟨A,c,rfl⟩:=h.form
 have HC0:Hid (∀W,Below w.heap.size w W→W.cell? ⟨B,0,none⟩=some (.slice A rs.length c)):=yh (fun W hW=>(h.below hW).c0)
 have hk0:(0:Int)≤(k:Int):=by omega
 have hkn:(k:Int)≤(rs.length:Int):=by omega
 have d1 :¬((k:Int)<0):=by omega
 have d2 :¬((rs.length:Int)<(k:Int)):=by omega
 obtain⟨V,HV⟩:=yx (Value.slice (if c=k then A else Option.map (fun x=>x.add (k*68)) A) (rs.length-k) (c-k))
 have CL:Hid (∀W,Below w.heap.size w W→Calls Tryz.prog 71 #[V] W fun e w'=>(∃u,e=.returned u∧OwnL w' W.heap.size 64 68 Rp.cells u (rs.drop k))∧Below W.heap.size W w'):=yh (fun W hW=>by
  have:=yel _ _ _ W ((h.below hW).slR k (by omega))
  rw[List.length_drop,HV]at this
  exact this)
 generalize rs.drop k=RD at *
 clear h hk
 generalize rs.length=n at *
 go_enter Tryz.func39,Tryz.ntmps39
 go_wp2_with fail
 refine wp_region_held_drew (S:=fun w'=>Below w.heap.size w w') (by kernel_rfl) ((Below.refl _ _).drew) (fun gH=>?_)
 generalize w.drew=wq at *
 refine yg 0 (.pointer (some ⟨B,0,none⟩)) rfl gH ?_
 simp only[Act.put,Ya,Yb,Yc,Yd,Ye,Yf]
 refine yg 1 (.pointer (some ⟨B,0,none⟩)) rfl gH ?_
 refine yg 2 (.pointer (some ⟨B,0,none⟩)) rfl gH ?_
 refine yk 3 (.slice A n c) rfl (fun w' hSw=>by have hq:=hSw;have hd:=HC0.out _ hq;go_simp) gH ?_
 simp only[Act.put,Ya,Yb,Yc,Yd,Ye,Yf]
 refine yg 4 (.int .i64 k) rfl gH ?_
 refine yg 5 (.int .i64 k) rfl gH ?_
 refine yg 6 (.pointer (some ⟨B,0,none⟩)) rfl gH ?_
 simp only[Act.put,Ya,Yb,Yc,Yd,Ye,Yf]
 refine yg 7 (.pointer (some ⟨B,0,none⟩)) rfl gH ?_
 refine yg 8 (.pointer (some ⟨B,0,none⟩)) rfl gH ?_
 refine yk 9 (.slice A n c) rfl (fun w' hSw=>by have hq:=hSw;have hd:=HC0.out _ hq;go_simp) gH ?_
 simp only[Act.put,Ya,Yb,Yc,Yd,Ye,Yf]
 refine yg 10 (.int .i64 n) rfl gH ?_
 refine yk 11 (.int .i64 k) rfl (fun w' hSw=>by have hq:=hSw;have hd:min (k:Int) (n:Int)=(k:Int):=(by omega);go_simp) gH ?_
 refine yk 12 (V) rfl (fun w' hSw=>by have hq:=hSw;have hd:=HV;go_simp) gH ?_
 simp only[Act.put,Ya,Yb,Yc,Yd,Ye,Yf]
 refine yR 13 (by kernel_rfl) rfl (fun K1 hK1=>?_)
 try simp only[Act.put,Ya,Yb,Yc,Yd,Ye,Yf]
 go_simp
 refine Calls.mono (CL.out _ gH) ?_
 rintro e wc1 ⟨⟨vv,rfl,ho9⟩,hc2⟩
 have HO9:=yh (ho9.mono gH.size)
 clear ho9
 refine hK1.out _ _ (yaa gH hc2) (fun gH=>?_)
 clear hK1 K1
 refine yg 14 (vv) rfl gH ?_
 refine wpAnyH_done (by kernel_rfl) ?_ _
 go_wp2_with fail
 go_ret
 exact⟨⟨_,rfl,HO9.out⟩,gH⟩
theorem LogAt.from_c {w:World}{base B:Nat}{v dv:Value}{rs:List Rp}(h:LogAt w base B v dv rs)(i:Int)(h1:(rs.length:Int)<i):
 Calls Tryz.prog 39 #[.pointer (some ⟨B,0,none⟩),.int .i64 i] w fun e w'=>(∃u,e=.returned u∧OwnL w' w.heap.size 64 68 Rp.cells u (rs.drop rs.length))∧Below w.heap.size w w':=by
 obtain⟨A,c,rfl⟩:=h.form
 have HC0:Hid (∀W,Below w.heap.size w W→W.cell? ⟨B,0,none⟩=some (.slice A rs.length c)):=yh (fun W hW=>(h.below hW).c0)
 have d1 :¬(i<0):=by omega
 have d2 :¬(i≤(rs.length:Int)):=by omega
 obtain⟨V,HV⟩:=yx (Value.slice (if c=rs.length then A else Option.map (fun x=>x.add (rs.length*68)) A) (rs.length-rs.length) (c-rs.length))
 have CL:Hid (∀W,Below w.heap.size w W→Calls Tryz.prog 71 #[V] W fun e w'=>(∃u,e=.returned u∧OwnL w' W.heap.size 64 68 Rp.cells u (rs.drop rs.length))∧Below W.heap.size W w'):=yh (fun W hW=>by
  have:=yel _ _ _ W ((h.below hW).slR rs.length (by omega))
  rw[List.length_drop,HV]at this
  exact this)
 generalize rs.drop rs.length=RD at *
 clear h
 generalize rs.length=n at *
 go_enter Tryz.func39,Tryz.ntmps39
 go_wp2_with fail
 refine wp_region_held_drew (S:=fun w'=>Below w.heap.size w w') (by kernel_rfl) ((Below.refl _ _).drew) (fun gH=>?_)
 generalize w.drew=wq at *
 refine yg 0 (.pointer (some ⟨B,0,none⟩)) rfl gH ?_
 simp only[Act.put,Ya,Yb,Yc,Yd,Ye,Yf]
 refine yg 1 (.pointer (some ⟨B,0,none⟩)) rfl gH ?_
 refine yg 2 (.pointer (some ⟨B,0,none⟩)) rfl gH ?_
 refine yk 3 (.slice A n c) rfl (fun w' hSw=>by have hq:=hSw;have hd:=HC0.out _ hq;go_simp) gH ?_
 simp only[Act.put,Ya,Yb,Yc,Yd,Ye,Yf]
 refine yg 4 (.int .i64 i) rfl gH ?_
 refine yk 5 (.int .i64 i) rfl (fun w' hSw=>by have hq:=hSw;have hd:max i 0=i:=(by omega);go_simp) gH ?_
 refine yg 6 (.pointer (some ⟨B,0,none⟩)) rfl gH ?_
 simp only[Act.put,Ya,Yb,Yc,Yd,Ye,Yf]
 refine yg 7 (.pointer (some ⟨B,0,none⟩)) rfl gH ?_
 refine yg 8 (.pointer (some ⟨B,0,none⟩)) rfl gH ?_
 refine yk 9 (.slice A n c) rfl (fun w' hSw=>by have hq:=hSw;have hd:=HC0.out _ hq;go_simp) gH ?_
 simp only[Act.put,Ya,Yb,Yc,Yd,Ye,Yf]
 refine yg 10 (.int .i64 n) rfl gH ?_
 refine yk 11 (.int .i64 n) rfl (fun w' hSw=>by have hq:=hSw;have hd:min i (n:Int)=(n:Int):=(by omega);go_simp) gH ?_
 refine yk 12 (V) rfl (fun w' hSw=>by have hq:=hSw;have hd:Value.slice (if c=n then A else Option.map (fun x=>x.add (n*68)) A) 0 (c-n)=V:=(by simpa using HV);go_simp) gH ?_
 simp only[Act.put,Ya,Yb,Yc,Yd,Ye,Yf]
 refine yR 13 (by kernel_rfl) rfl (fun K1 hK1=>?_)
 try simp only[Act.put,Ya,Yb,Yc,Yd,Ye,Yf]
 go_simp
 refine Calls.mono (CL.out _ gH) ?_
 rintro e wc1 ⟨⟨vv,rfl,ho9⟩,hc2⟩
 have HO9:=yh (ho9.mono gH.size)
 clear ho9
 refine hK1.out _ _ (yaa gH hc2) (fun gH=>?_)
 clear hK1 K1
 refine yg 14 (vv) rfl gH ?_
 refine wpAnyH_done (by kernel_rfl) ?_ _
 go_wp2_with fail
 go_ret
 exact⟨⟨_,rfl,HO9.out⟩,gH⟩
theorem LogAt.from {w:World}{base B:Nat}{v dv:Value}{rs:List Rp}(h:LogAt w base B v dv rs)(i:Int):
 Calls Tryz.prog 39 #[.pointer (some ⟨B,0,none⟩),.int .i64 i] w fun e w'=>(∃u,e=.returned u∧OwnL w' w.heap.size 64 68 Rp.cells u (rs.drop (Od.lo rs.length i)))∧Below w.heap.size w w':=by
 unfold Od.lo
 by_cases h1:i<0
 · rw[if_pos h1];exact h.from_a i h1
 · rw[if_neg h1]
   by_cases h2:i≤(rs.length:Int)
   · rw[if_pos h2]
     obtain⟨k,rfl⟩:=Int.eq_ofNat_of_zero_le (show 0≤i by omega)
     exact h.from_b k (by omega)
   · rw[if_neg h2];exact h.from_c i (by omega)
end
section
open Go.RowKit
namespace It
end It
end
section
open Go.RowKit
namespace Bd
end Bd
end
section
open Go.RowKit
namespace Bd
end Bd
end
section
open Go.RowKit
namespace Bd
end Bd
end
section
open Go.RowKit
end
section
open Go.RowKit
end
section
open Go.RowKit
end
section
open Go.RowKit
namespace Bd
def lits (b:Bd):List Lit:=[.int .i64 b.round,.int .i64 b.who,.int .i64 b.amount,.int .i64 b.salt]++Tx.hlits b.tag
theorem yf0 {a b:Bd}(h:a.lits=b.lits):a=b:=by
 obtain⟨a1,a2,a3,a4,a5⟩:=a
 obtain⟨b1,b2,b3,b4,b5⟩:=b
 simp only[lits,List.cons_append,List.nil_append,List.cons.injEq,Lit.int.injEq,true_and]at h
 obtain⟨rfl,rfl,rfl,rfl,h5⟩:=h
 rw[Tx.yd3 h5]
end Bd
end
section
open Go.RowKit
namespace Rp
end Rp
end
section
open Go.RowKit
end
section
open Go.RowKit
end
section
open Go.RowKit
end
section
open Go.RowKit
end
section
open Go.RowKit
namespace Rp
def lits (b:Rp):List Lit:=[.int .i64 b.index,.int .i64 b.kind,.int .i64 b.time,.string b.body.data.toList]++(Tx.hlits b.prev++Tx.hlits b.hash)
theorem yf0 {a b:Rp}(ha:a.prev.length=32)(hb:b.prev.length=32)(h:a.lits=b.lits):a=b:=by
 obtain⟨a1,a2,a3,a4,a5,a6⟩:=a
 obtain⟨b1,b2,b3,b4,b5,b6⟩:=b
 simp only[lits,List.cons_append,List.nil_append,List.cons.injEq,Lit.int.injEq,Lit.string.injEq,true_and]at h ha hb
 obtain⟨rfl,rfl,rfl,h4,h5⟩:=h
 have h4':a4=b4:=by
  cases a4;cases b4
  congr 1
  exact Array.toList_inj.1 h4
 subst h4'
 obtain⟨h5a,h5b⟩:=List.append_inj h5 (by simp[Tx.hlits,ha,hb])
 rw[Tx.yd3 h5a,Tx.yd3 h5b]
end Rp
theorem yps {b:Rp}(h:b.Fits):Tryz.prog.keyLits 3 64 b.cells=some b.lits:=by
 have hc:Tryz.prog.cellsOf 64=68:=by kernel_rfl
 have hI:Tryz.prog.cellsOf 3=1:=by kernel_rfl
 have hS:Tryz.prog.cellsOf 9=1:=by kernel_rfl
 have hH:Tryz.prog.cellsOf 62=32:=by kernel_rfl
 have hm:b.body.size≤maxLen:=by have:=h.body;unfold maxLen;omega
 unfold Program.keyLits
 simp only[Tryz.underlying64]
 rw[if_pos ⟨by rw[hc,Rp.yao h.prev h.hash],by kernel_rfl⟩]
 have e0:Tryz.prog.keyLits 2 3 ((b.cells.drop 0).take (Tryz.prog.cellsOf 3))=some [.int .i64 b.index]:=by rw[hI];exact yck 1 h.index
 have e1:Tryz.prog.keyLits 2 3 ((b.cells.drop 1).take (Tryz.prog.cellsOf 3))=some [.int .i64 b.kind]:=by rw[hI];exact yck 1 h.kind
 have e2:Tryz.prog.keyLits 2 3 ((b.cells.drop 2).take (Tryz.prog.cellsOf 3))=some [.int .i64 b.time]:=by rw[hI];exact yck 1 h.time
 have e3:Tryz.prog.keyLits 2 9 ((b.cells.drop 3).take (Tryz.prog.cellsOf 9))=some [.string b.body.data.toList]:=by rw[hS];exact yqq 1 _ hm
 have e4:Tryz.prog.keyLits 2 62 ((b.cells.drop 4).take (Tryz.prog.cellsOf 62))=some (Tx.hlits b.prev):=by rw[hH,Rp.yif h.prev];exact ydi _ h.prev
 have e5:Tryz.prog.keyLits 2 62 ((b.cells.drop 36).take (Tryz.prog.cellsOf 62))=some (Tx.hlits b.hash):=by rw[hH,Rp.yig h.prev,List.take_of_length_le (by rw[Tx.yap _ h.hash];omega)];exact ydi _ h.hash
 simp only[List.mapM_cons,List.mapM_nil,e0,e1,e2,e3,e4,e5,Option.bind_eq_bind,Option.bind_some,Option.pure_def,Option.map_some]
 simp[Rp.lits]
theorem rp_eq (W:World)(a b:Rp)(ha:a.Fits)(hb:b.Fits) :∃r:Bool,(Op.equalIn 10000 64 (.agg a.cells.toArray) (.agg b.cells.toArray)).run Tryz.prog W=.ok r W∧(r=true↔a=b):=by
 have hk:Tryz.prog.keyTypeAt 3 64=true:=by kernel_rfl
 have hf :∀x:Rp,x.Fits→(Value.agg x.cells.toArray).formed Tryz.prog 64=true:=by
  intro x hx
  have hc:Tryz.prog.cellsOf 64=68:=by kernel_rfl
  have hs:=Rp.yao hx.prev hx.hash
  simp[Value.formed,Tryz.underlying64,hs,hc]
 obtain⟨r,hr,hiff⟩:=run_equalIn_deep (P:=Tryz.prog) 9997 3 64 hk W 3 3 (.agg a.cells.toArray) (.agg b.cells.toArray) _ _ (hf a ha) (hf b hb) (by show Tryz.prog.keyLits 3 _ a.cells.toArray.toList=_;exact yps ha) (by show Tryz.prog.keyLits 3 _ b.cells.toArray.toList=_;exact yps hb)
 exact⟨r,hr,hiff.trans ⟨Rp.yf0 ha.prev hb.prev,fun h=>by rw[h]⟩⟩
theorem ytz (W:World)(a b:Rp)(ha:a.Fits)(hb:b.Fits){v:Bool}(h:v=true↔a=b):(Op.equalIn 10000 64 (.agg a.cells.toArray) (.agg b.cells.toArray)).run Tryz.prog W=.ok v W:=by
 obtain⟨r,hr,hi⟩:=rp_eq W a b ha hb
 rw[hr]
 have:r=v:=by rw[Bool.eq_iff_iff,hi,h]
 rw[this]
end
section
open Go.RowKit
end
section
open Go.RowKit
end
section
open Go.RowKit
namespace Blocks
variable {w0 W W' : World} {l : List (Nat × TypeId × List Value)} {g : Nat} {T : TypeId} {C : List Value}
end Blocks
end
section
open Go.RowKit
namespace No
end No
end
section
open Go.RowKit
end
section
open Go.RowKit
namespace Od
def fitsIn (rs:List Rp)(r:Rp):Prop:=(mk rs r.kind r.body r.time).2.2=0∧(mk rs r.kind r.body r.time).1=r
theorem yqm {rs:List Rp}(h:Good rs)(kind:Int)(body:ByteArray)(time:Int):(mk rs kind body time).1.Fits:=by
 by_cases h1:rs≠[]∧time<last rs
 · rw[ydq h1];exact Rp.yal
 by_cases h2:(ask rs kind body).2=0
 · rw[ycj h1 h2]
   unfold Rp.linkE
   by_cases h3:(raw rs kind body time).ok=true
   · rw[if_pos h3]
     have ht:Took rs kind body time (raw rs kind body time).linked (ask rs kind body).1:=⟨h1,h2,h3,rfl,(ydl h2).1⟩
     exact ht.fits h.head
   · rw[if_neg h3];exact Rp.yal
 · rw[ye1 h1 h2];exact Rp.yal
theorem ylz {rs:List Rp}{r:Rp}(h:fitsIn rs r):mk rs r.kind r.body r.time=(r,(mk rs r.kind r.body r.time).2.1,0):=by
 exact Prod.ext h.2 (Prod.ext rfl h.1)
end Od
theorem LogAt.load_yes {w:World}{base B:Nat}{v dv:Value}{rs:List Rp}(h:LogAt w base B v dv rs)(r:Rp)(hr:r.Fits)(gv:Nat)(hrow:Row w gv 64 r.cells)(hT:Tab w)(hl:rs.length<1000)(hf:Od.fitsIn rs r):
 Calls Tryz.prog 114 #[.pointer (some ⟨B,0,none⟩),.slice (some ⟨gv,0,none⟩) 1 1] w fun e w'=>e=.returned (.int .i64 1)∧LTo w w' base B v dv (rs ++ [r]):=by
 have hzv:=ydz
 have HZ68:=yh (Rp.yao Rp.yal.prev Rp.yal.hash)
 obtain⟨ZT,hZT⟩:=yx (Rp.zero.cells)
 rw[hZT]at hzv HZ68
 clear hZT
 have HH:=yh h
 have HRow:=yh hrow
 have HC68:=yh (Rp.yao hr.prev hr.hash)
 have HC1:=yh (Rp.yan hr.prev hr.hash)
 have HBx:=yh (fun W g (q:Row W g 64 r.cells)=>ydf q)
 have LK:Hid (∀W,Below w.heap.size w W→Calls Tryz.prog 92 #[.pointer (some ⟨B,0,none⟩),.int .i64 r.kind,.string r.body,.int .i64 r.time] W fun e w'=>e=.returned (.tuple #[.agg (Od.mk rs r.kind r.body r.time).1.cells.toArray,.int .i64 (Od.mk rs r.kind r.body r.time).2.1,.int .i64 (Od.mk rs r.kind r.body r.time).2.2])∧Below W.heap.size W w'):=yh (fun W hW=>(HH.out.below hW).link r.kind r.body r.time hr.body (hT.below hW hT.pos))
 have hrf:=Od.yqm h.good r.kind r.body r.time
 have hm:=Od.ylz hf
 have PU:Hid (∀W,Below w.heap.size w W→Calls Tryz.prog 93 #[.pointer (some ⟨B,0,none⟩),.agg r.cells.toArray,.int .i64 (Od.mk rs r.kind r.body r.time).2.1] W fun e w'=>e=.returned (.tuple #[])∧LTo W w' base B v dv (rs ++ [r])):=yh (fun W hW=>(HH.out.below hW).put hm hl)
 have HEq:=yh (fun W=>ytz W r r hr hr (v:=true) (by simp))
 rw[hf.1,hf.2]at LK
 obtain⟨who,hwho⟩:=yx ((Od.mk rs r.kind r.body r.time).2.1)
 rw[hwho]at LK PU
 obtain⟨C,hC⟩:=yx (r.cells)
 rw[hC]at LK HC68 HC1 PU HEq HRow HBx
 clear hm hwho hC
 generalize r.kind=rk at *
 generalize r.time=rt at *
 generalize r.body=rb at *
 clear h hrow hT hl hr hrf hf
 go_enter Tryz.func114,Tryz.ntmps114
 go_wp2_with fail
 go_step3
 go_wp2_with fail
 go_step3
 go_wp2_with fail
 go_loopw [5,13] (fun s5 s13 wr=>(s5=.int .i64 0∧s13=.int .i64 0∧w=wr)∨(s5=.int .i64 1∧s13=.int .i64 1∧LTo w wr base B v dv (rs ++ [r]))) (fun _ i _=>1-(intOf i).toNat)
 case atStart=>exact .inl ⟨rfl,rfl,rfl⟩
 case round=>
  rcases hrel with⟨rfl,rfl,rfl⟩|⟨rfl,rfl,hp⟩
  · skip
    go_wp2_with (first
     | ((with_reducible show wpList _ _ _ (⟨_,.load 64 (.tmp 15),_,_,_,_⟩::_) _ _);refine yac rfl 64 (.tmp 15) rfl gv 0 (by first|rfl|simp) C _ (yah HRow.out) Tryz.underlying64 rfl (by rw[yaf,HC68.out]) ?_)
     | (
        with_reducible show wpList _ _ _ (⟨_,.store 64 (.tmp 7) _,_,_,_,_⟩::_) _ _
        refine yab rfl 64 (.tmp 7) (.tmp 16) rfl w.heap.size 0 C ZT _ rfl rfl (Row.new w 64 ZT) (by have:=HZ68.out;have:=HC68.out;omega) (by rw[yaf,HC68.out]) HC1.out ?_
        intro w3 hr hg
        rw[yad (HC68.out.trans HZ68.out.symm)]at hr
        have hbx:=below_own ((Below.refl w.heap.size w).alloc (Nat.le_refl _) (.cells ZT.toArray 64)) hg (fun k hk=>by cases hk;exact Nat.le_refl _)
        have HB3:=yh hbx
        have HX3:=yh hr
        obtain⟨_,c1,c2,c3⟩:=HBx.out _ _ hr
        clear hbx
        clear hr hg))
    refine(LK.out _ HB3.out).mono ?_
    rintro _ w4 ⟨rfl,hb4⟩
    have HB4:=yh (yaa HB3.out hb4)
    have HX4:=yh (HX3.out.below hb4)
    clear hb4 c1 c2 c3
    have heq:=HEq.out
    go_wp2_with (first
     | (
        with_reducible show wpList _ _ _ (⟨_,.store 64 (.tmp 8) _,_,_,_,_⟩::_) _ _
        refine yab rfl 64 (.tmp 8) (.tmp 26) rfl w4.heap.size 0 C ZT _ rfl rfl (Row.new w4 64 ZT) (by have:=HZ68.out;have:=HC68.out;omega) (by rw[yaf,HC68.out]) HC1.out ?_
        intro w5 hr hg
        rw[yad (HC68.out.trans HZ68.out.symm)]at hr
        have hbx:=below_own ((Below.refl w4.heap.size w4).alloc (Nat.le_refl _) (.cells ZT.toArray 64)) hg (fun k hk=>by cases hk;exact Nat.le_refl _)
        have HB5:=yh (yaa HB4.out hbx)
        have HX5:=yh (HX4.out.below hbx)
        have HY5:=yh hr
        clear hbx
        clear hr hg)
     | ((with_reducible show wpList _ _ _ (⟨_,.load 64 (.tmp 7),_,_,_,_⟩::_) _ _);refine yac rfl 64 (.tmp 7) rfl w.heap.size 0 (rfl) C _ (yah HX5.out) Tryz.underlying64 rfl (by rw[yaf,HC68.out]) ?_)
     | ((with_reducible show wpList _ _ _ (⟨_,.load 64 (.tmp 8),_,_,_,_⟩::_) _ _);refine yac rfl 64 (.tmp 8) rfl w4.heap.size 0 (rfl) C _ (yah HY5.out) Tryz.underlying64 rfl (by rw[yaf,HC68.out]) ?_))
    clear heq
    refine(PU.out _ HB5.out).mono ?_
    rintro _ w6 ⟨rfl,hp6⟩
    have HP6:=yh hp6
    clear hp6
    go_wp2_with fail
    exact⟨.inr ⟨rfl,rfl,by
     have hb:=HB5.out
     obtain⟨v',dv',hla,hch,hls⟩:=HP6.out
     exact⟨v',dv',hla,(Chg.ya6 (S:=LS B v dv) hb).trans hch (fun i hi=>.inl hi),fun k hk=>(hls k hk).imp id (fun q=>Nat.le_trans hb.size q)⟩⟩,by simp[intOf]⟩
  · have HP:=yh hp
    clear hp
    go_wp2_with fail
    rw[Exit.noGoto_ret]
    go_ret
    exact⟨rfl,HP.out⟩
theorem LogAt.Load_yes {w:World}{base B:Nat}{v dv:Value}{rs:List Rp}(h:LogAt w base B v dv rs)(r:Rp)(hr:r.Fits)(hT:Tab w)(hl:rs.length<1000)(hf:Od.fitsIn rs r):
 Calls Tryz.prog 79 #[.pointer (some ⟨B,0,none⟩),.agg r.cells.toArray] w fun e w'=>e=.returned (.int .i64 0)∧LTo w w' base B v dv (rs ++ [r]):=by
 have HH:=yh h
 have HC68:=yh (Rp.yao hr.prev hr.hash)
 have HB0:=yh ((Below.refl w.heap.size w).alloc (Nat.le_refl _) (.cells r.cells.toArray 64))
 have HR0:=yh (Row.new w 64 r.cells)
 have LD:Hid (∀W gv,Below w.heap.size w W→Row W gv 64 r.cells→Calls Tryz.prog 114 #[.pointer (some ⟨B,0,none⟩),.slice (some ⟨gv,0,none⟩) 1 1] W fun e w'=>e=.returned (.int .i64 1)∧LTo W w' base B v dv (rs ++ [r])):=yh (fun W gv hW hrw=>(h.below hW).load_yes r hr gv hrw (hT.below hW hT.pos) hl hf)
 obtain⟨C,hC⟩:=yx (r.cells)
 rw[hC]at HC68 HB0 HR0 LD ⊢
 clear h hr hT hl hf hC
 go_enter Tryz.func79,Tryz.ntmps79
 go_wp2_with (first
  | ((with_reducible show wpList _ _ _ (⟨_,.load 64 (.tmp 3),_,_,_,_⟩::_) _ _);refine yac rfl 64 (.tmp 3) rfl w.heap.size 0 (rfl) C _ (yah HR0.out) Tryz.underlying64 rfl (by rw[yaf,HC68.out]) ?_)
  | ((with_reducible show wpList _ _ _ (⟨_, .buildSlice 29 _ _, _, _, _, _⟩ :: _) _ _)
     refine wpList_plain rfl fun _ hK=>yb6 (.tmp 8) rfl C HC68.out rfl (hK _ _ ?_)
     have hR1:=Row.new (w.alloc (.cells C.toArray 64)) 64 C
     have hB1:=HB0.out.alloc HB0.out.size (.cells C.toArray 64)
     rw[show (w.alloc (.cells C.toArray 64)).heap.size=w.heap.size+1 by simp]at hR1
     have HR1:=yh hR1
     have HB1:=yh hB1
     clear hR1 hB1))
 have HL1:=yh (LD.out _ (w.heap.size+1) HB1.out HR1.out)
 refine HL1.out.mono ?_
 rintro _ w3 ⟨rfl,hp⟩
 have HP:=yh hp
 clear hp
 go_wp2_with fail
 go_ret
 exact⟨rfl,by
  have hb:=HB1.out
  obtain⟨v',dv',hla,hch,hls⟩:=HP.out
  exact⟨v',dv',hla,(Chg.ya6 (S:=LS B v dv) hb).trans hch (fun i hi=>.inl hi),fun k hk=>(hls k hk).imp id (fun q=>Nat.le_trans hb.size q)⟩⟩
end
end Go.Proofs.YtalfnadejpmjnaaGreatDoor
