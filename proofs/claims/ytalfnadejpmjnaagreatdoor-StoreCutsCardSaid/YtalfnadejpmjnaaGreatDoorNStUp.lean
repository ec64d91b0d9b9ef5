/- A part. -/
import Derived.Test.YtalfnadejpmjnaaGreatDoorNStDoU
import Derived.Test.YtalfnadejpmjnaaGreatDoorNStDoV
set_option linter.unusedVariables false
set_option linter.unusedSimpArgs false
set_option maxRecDepth 100000
set_option maxHeartbeats 25600000
namespace Go.Proofs.YtalfnadejpmjnaaGreatDoor
section
open Go.RowKit
structure UpAt (w0 W:World)(p g m N:Nat)(safe:Nat)(all:List (List UInt8))(rs:List Rp)(cs:List Ct)(rel sc:Int)(o:Option (List UInt8×Int))(j:Jn.Jr.J):Prop where
 inv:Jn.Jr.Inv o j all safe
 mix:Mix all rs cs
 chain:Chain rs cs
 good:Od.Good rs
 few:all.length≤N
 sit:Sit w0 W p g m (Jn.Jr.St o none) (-1) j rs cs rel false rel sc false rs cs
def Up20 (w0 W:World)(p g m N:Nat):Prop :=∃safe all rs cs rel sc o j,UpAt w0 W p g m N safe all rs cs rel sc o j
section
variable {w0 W : World} {p g m N : Nat}
theorem Up20.sync (h:Up20 w0 W p g m N)(hN:N≤199)(ac:List Value)(hac :∀(W':World) b,Row W' b AcT ac→W'.cell? ⟨b,0,none⟩=some (.int .i64 3)):
 Calls Tryz.prog 12 #[.pointer (some ⟨m,0,none⟩),.agg ac.toArray] W fun e w'=>e=.returned (.bool true)∧Up20 w0 w' p g m (N+1):=by
 obtain⟨safe,all,rs,cs,rel,sc,o,j,hI,hM,hC,hG,hF,hS⟩:=h
 obtain⟨o',j',ea,hi⟩:=Inv.yue hI
 refine(yr8 (l':=Jn.Jr.St o' none) (r':=-1) (j':=j') (rel':=rs.length) (brk':=false) hS ac hac 0 (fun W' rows hs=>(hs.sync_ok (by rw[ea])).mono ?_) (.inr (.inr ⟨rfl,fun q=>absurd q.1 (by decide),rfl,rfl,rfl⟩))).mono ?_
 · rintro e w' ⟨rfl,h2⟩
   rw[ea]at h2
   exact⟨rfl,h2⟩
 · rintro e w' ⟨rfl,h2⟩
   rw[if_pos rfl]at h2
   exact⟨rfl,all.length,all,rs,cs,rs.length,cs.length,o',j',hi,hM,hC,hG,by omega,h2⟩
theorem yo6 {rs:List Rp}{cs:List Ct}(h:Chain rs cs)(hl:rs.length≤1000)(hc:cs.length≤1000)(n:Int)(h1:1≤n)(h2:n≤1000) :∀x∈(wCut rs cs n).nums,Tx.fits x:=by
 have a1:=h.low cs.length (Nat.le_refl _)
 have a2:=h.high cs.length (Nat.le_refl _)
 have a3:=Od.yir rs (Od.most rs.length (ctSum cs cs.length))
 have a4:Od.most rs.length (ctSum cs cs.length)≤1000:=by rw[yi0 (by omega) a2];omega
 intro x hx
 unfold wCut Ct.nums at hx
 simp only[List.mem_cons,List.not_mem_nil,or_false]at hx
 unfold Tx.fits
 rcases hx with rfl|rfl|rfl|rfl <;> omega
theorem Up20.cut (h:Up20 w0 W p g m N)(hN:N≤199)(ac:List Value)(nn:Int)(hac :∀(W':World) b,Row W' b AcT ac→W'.cell? ⟨b,0,none⟩=some (.int .i64 2)∧W'.cell? ⟨b,3,none⟩=some (.int .i64 nn)):
 Calls Tryz.prog 12 #[.pointer (some ⟨m,0,none⟩),.agg ac.toArray] W fun e w'=>e=.returned (.bool true)∧Up20 w0 w' p g m (N+1):=by
 obtain⟨safe,all,rs,cs,rel,sc,o,j,hI,hM,hC,hG,hF,hS⟩:=h
 have hl:=hM.len
 have hok:=hC.ok (by omega)
 have hjl:j.len≤1000000000:=by rw[hI.len];omega
 by_cases e0:(ctNext rs cs nn).2=0
 · obtain⟨h1,h2,h3⟩:=hC.next hG e0
   have hlo:=hC.low cs.length (Nat.le_refl _)
   obtain⟨o',j',ea,hi⟩:=Inv.yt6 hI (by omega) (ctNext rs cs nn).1.rcd (by have:=Ct.yc2 (ctNext rs cs nn).1;omega)
   refine(yr9 (l':=Jn.Jr.St o' none) (r':=-1) (j':=j') hS hok nn ac hac (wCut rs cs nn) (fun W' rows hs=>(hs.cut_ok hok (by omega) hjl nn e0 (by rw[ea])).mono ?_) (by omega) (by omega) (by decide) rfl (yo6 hC (by omega) (by omega) nn h1 (by omega))).mono ?_
   · rintro e w' ⟨rfl,h4⟩
     rw[ea,h3]at h4
     rw[h3]
     exact⟨rfl,h4⟩
   · rintro e w' ⟨rfl,h4⟩
     rw[h3]at hi
     refine⟨rfl,safe,all ++ [(wCut rs cs nn).rcd],rs,cs ++ [wCut rs cs nn],rel,sc,o',j',hi,Mix.ct hM ?_,hC.push h1 h2,hG,by simp;omega,h4⟩
     have:(wCut rs cs nn).count=nn:=rfl
     rw[this]
     exact Prod.ext h3 e0
 · have hx:(ctNext rs cs nn).2=2∧nn<1∨(ctNext rs cs nn).2=4∧¬nn<1∧(rs.length:Int)-ctSum cs cs.length<nn:=by
    unfold ctNext ctOpen at e0 ⊢
    rw[hC.end]at e0 ⊢
    by_cases q:nn<1
    · rw[if_pos q];exact .inl ⟨rfl,q⟩
    · rw[if_neg q]at e0 ⊢
      by_cases q2:(rs.length:Int)-ctSum cs cs.length<nn
      · rw[if_pos q2];exact .inr ⟨rfl,q,q2⟩
      · rw[if_neg q2]at e0;exact absurd rfl e0
   refine(ysa (l':=Jn.Jr.St o none) (r':=-1) (j':=j) (brk':=false) hS hok nn ac hac Ct.zero (ctNext rs cs nn).2 (fun W' rows hs=>hs.cut_no hok nn e0) (hx.elim (fun q=>.inr (.inl ⟨rfl,q.2,q.1,rfl⟩)) (fun q=>.inr (.inr (.inl ⟨rfl,q.2.1,q.2.2,q.1,rfl⟩))))).mono ?_
   rintro e w' ⟨rfl,h4⟩
   exact⟨rfl,safe,all,rs,cs,rel,sc,o,j,hI,hM,hC,hG,by omega,h4⟩
theorem Chain.nums {rs:List Rp}{cs:List Ct}(h:Chain rs cs)(hl:rs.length≤1000)(hc:cs.length≤1000) :∀c∈cs,∀x∈c.nums,x≤9223372036854775807:=by
 intro c hcm x hx
 obtain⟨k,hk,rfl⟩:=List.getElem_of_mem hcm
 obtain⟨a1,a2,a3,a4,a5⟩:=h k hk
 have b1:=h.low k (by omega)
 have b2:=h.high k (by omega)
 have b3:=Od.yir rs (Od.most rs.length (ctSum cs k))
 have b4:Od.most rs.length (ctSum cs k)≤1000:=by rw[yi0 (by omega) b2];omega
 rw[yb7 hk]at a5
 unfold Ct.nums at hx
 simp only[List.mem_cons,List.not_mem_nil,or_false]at hx
 rcases hx with rfl|rfl|rfl|rfl <;> omega
theorem Up20.comp (h:Up20 w0 W p g m N)(hT:Tab w0)(hN:N≤199)(kk:Int)(hkk:kk<0∨3<kk)(ac:List Value)(hac :∀(W':World) b,Row W' b AcT ac→W'.cell? ⟨b,0,none⟩=some (.int .i64 kk)):
 Calls Tryz.prog 12 #[.pointer (some ⟨m,0,none⟩),.agg ac.toArray] W fun e w'=>e=.returned (.bool true)∧Up20 w0 w' p g m (N+1):=by
 obtain⟨safe,all,rs,cs,rel,sc,o,j,hI,hM,hC,hG,hF,hS⟩:=h
 have hl:=hM.len
 have hfit :∀x∈rs,x.Fits:=by
  obtain⟨v,u,xr,yr,h,h1,h2⟩:=hS
  exact h.lists.1
 have hm:=Mix.recs hG hfit hC
 have hml:=hm.len
 obtain⟨o',j',ea,hi⟩:=Inv.ysr hI (recs rs cs) (by omega) (fun s hs=>by have:=hm.small s hs;omega)
 refine(ysb (l':=Jn.Jr.St o' none) (r':=-1) (j':=j') (rel':=rs.length) (brk':=false) hS kk hkk ac hac 0 (fun W' rows hs=>?_) (.inr (.inr ⟨rfl,by decide,rfl,rfl,rfl⟩))).mono ?_
 · obtain⟨q,B,Z,v,dv,cv,ha⟩:=hs
   refine(ha.compact hT (hC.nums (by omega) (by omega)) (by omega) (by rw[ea])).mono ?_
   rintro e w' ⟨rfl,Z',h2⟩
   rw[ea]at h2
   exact⟨rfl,q,B,Z',v,dv,cv,h2⟩
 · rintro e w' ⟨rfl,h2⟩
   rw[if_pos rfl]at h2
   exact⟨rfl,(recs rs cs).length,recs rs cs,rs,cs,rs.length,cs.length,o',j',hi,hm,hC,hG,by omega,h2⟩
end
end
section
open Go.RowKit
theorem Od.yux {rs:List Rp}{kind time:Int}{body:ByteArray}(hg:Od.Good (rs ++ [(Od.mk rs kind body time).1])):Od.fitsIn rs (Od.mk rs kind body time).1:=by
 have h:=hg.loads rs.length (by simp)
 rw[List.take_left]at h
 simpa using h
theorem Od.yuq {rs:List Rp}{kind time:Int}{body:ByteArray}(hg:Od.Good rs)(he:(Od.mk rs kind body time).2.2=0):Od.Good (rs ++ [(Od.mk rs kind body time).1]):=by
 have h:=Od.yrz hg kind body time
 unfold Od.addL at h
 rwa[if_pos he]at h
section
variable {w0 W : World} {p g m N : Nat}
theorem Up20.add (h:Up20 w0 W p g m N)(hT:Tab w0)(hN:N≤199)(kk mk nn:Int)(body:ByteArray)(hkk:kk=0∨kk=1)(hbs:body.size≤140737488351232)(ac:List Value)(hac :∀(W':World) b,Row W' b AcT ac→W'.cell? ⟨b,0,none⟩=some (.int .i64 kk)∧W'.cell? ⟨b,1,none⟩=some (.int .i64 mk)∧W'.cell? ⟨b,2,none⟩=some (.int .i64 nn)∧W'.cell? ⟨b,4,none⟩=some (.string body)):
 Calls Tryz.prog 12 #[.pointer (some ⟨m,0,none⟩),.agg ac.toArray] W fun e w'=>e=.returned (.bool true)∧Up20 w0 w' p g m (N+1):=by
 obtain⟨safe,all,rs,cs,rel,sc,o,j,hI,hM,hC,hG,hF,hS⟩:=h
 have hl:=hM.len
 have hjl:j.len≤1000000000:=by rw[hI.len];omega
 have hfx:=Od.ye0 hG mk body (Od.timeW rs nn)
 by_cases e0:(Od.mk rs mk body (Od.timeW rs nn)).2.2=0
 · obtain⟨o',j',ea,hi⟩:=Inv.yt6 hI (by omega) (Od.mk rs mk body (Od.timeW rs nn)).1.rcd (by have:=Rp.yc2 hfx.prev hfx.hash;omega)
   have hgd:=Od.yuq hG e0
   refine(yo5 (l':=Jn.Jr.St o' none) (r':=-1) (j':=j') (rs':=rs ++ [(Od.mk rs mk body (Od.timeW rs nn)).1]) (brk':=false) hS hG (by omega) kk mk nn body hkk hbs ac hac (Od.mk rs mk body (Od.timeW rs nn)).1 hfx 0 0 (fun W' rows hs=>?_) (fun W' rows hs=>?_) (.inr (.inr (.inl ⟨rfl,e0,rfl,by decide,rfl,rfl,rfl,rfl⟩)))).mono ?_
   · obtain⟨q,B,Z,v,dv,cv,ha⟩:=hs
     have:=ha.ask hT (by omega) mk (Od.timeW rs nn) body hbs
     rw[e0]at this
     exact this
   · have:=hs.add_ok hT (by omega) hjl mk (Od.timeW rs nn) body hbs e0 (by rw[ea])
     rw[ea]at this
     exact this
   · rintro e w' ⟨rfl,h4⟩
     exact⟨rfl,safe,all ++ [(Od.mk rs mk body (Od.timeW rs nn)).1.rcd],rs ++ [(Od.mk rs mk body (Od.timeW rs nn)).1],cs,rel,sc,o',j',hi,Mix.rc hM hfx (Od.yux hgd),hC.more _,hgd,by simp;omega,h4⟩
 · refine(yo5 (l':=Jn.Jr.St o none) (r':=-1) (j':=j) (rs':=rs) (brk':=false) hS hG (by omega) kk mk nn body hkk hbs ac hac Rp.zero Rp.yal (Od.mk rs mk body (Od.timeW rs nn)).2.2 (Od.mk rs mk body (Od.timeW rs nn)).2.2 (fun W' rows hs=>?_) (fun W' rows hs=>hs.add_no hT (by omega) mk (Od.timeW rs nn) body hbs e0) (.inr (.inl ⟨rfl,e0,rfl,rfl,rfl,rfl⟩))).mono ?_
   · obtain⟨q,B,Z,v,dv,cv,ha⟩:=hs
     exact ha.ask hT (by omega) mk (Od.timeW rs nn) body hbs
   · rintro e w' ⟨rfl,h4⟩
     exact⟨rfl,safe,all,rs,cs,rel,sc,o,j,hI,hM,hC,hG,by omega,h4⟩
theorem Act20.row {W:World}{b:Nat}{a:Act20}(h:Row W b AcT a.cells):W.cell? ⟨b,0,none⟩=some (.int .i64 a.kind)∧W.cell? ⟨b,1,none⟩=some (.int .i64 a.mkind)∧W.cell? ⟨b,2,none⟩=some (.int .i64 a.later)∧W.cell? ⟨b,3,none⟩=some (.int .i64 a.n)∧W.cell? ⟨b,4,none⟩=some (.string a.body):=
 ⟨yah h 0 _ rfl,yah h 1 _ rfl,yah h 2 _ rfl,yah h 3 _ rfl,yah h 4 _ rfl⟩
theorem Up20.do (h:Up20 w0 W p g m N)(hT:Tab w0)(hN:N≤199)(a:Act20)(ha:a.Fits):
 Calls Tryz.prog 12 #[.pointer (some ⟨m,0,none⟩),.agg a.cells.toArray] W fun e w'=>e=.returned (.bool true)∧Up20 w0 w' p g m (N+1):=by
 by_cases h01:a.kind=0∨a.kind=1
 · exact h.add hT hN a.kind a.mkind a.later a.body h01 ha.body a.cells (fun W' b hr=>⟨(Act20.row hr).1,(Act20.row hr).2.1,(Act20.row hr).2.2.1,(Act20.row hr).2.2.2.2⟩)
 by_cases h2:a.kind=2
 · exact h.cut hN a.cells a.n (fun W' b hr=>⟨by rw[←h2];exact(Act20.row hr).1,(Act20.row hr).2.2.2.1⟩)
 by_cases h3:a.kind=3
 · exact h.sync hN a.cells (fun W' b hr=>by rw[←h3];exact(Act20.row hr).1)
 · exact h.comp hT hN a.kind (by omega) a.cells (fun W' b hr=>(Act20.row hr).1)
theorem Up20.le {M:Nat}(h:Up20 w0 W p g m N)(hN:N≤M):Up20 w0 W p g m M:=by
 obtain⟨safe,all,rs,cs,rel,sc,o,j,hI,hM,hC,hG,hF,hS⟩:=h
 exact⟨safe,all,rs,cs,rel,sc,o,j,hI,hM,hC,hG,Nat.le_trans hF hN,hS⟩
theorem Up20.low (h:Up20 w0 W p g m N):Below w0.heap.size w0 W:=by
 obtain⟨safe,all,rs,cs,rel,sc,o,j,hI,hM,hC,hG,hF,hS⟩:=h
 exact hS.low
theorem Up20.below {W':World}(h:Up20 w0 W p g m N)(hb:Below W.heap.size W W'):Up20 w0 W' p g m N:=by
 obtain⟨safe,all,rs,cs,rel,sc,o,j,hI,hM,hC,hG,hF,hS⟩:=h
 exact⟨safe,all,rs,cs,rel,sc,o,j,hI,hM,hC,hG,hF,hS.below hb⟩
end
end
section
open Go.RowKit
theorem yqp (w:World):Calls Tryz.prog 9 #[] w fun e w' =>∃m,e=.returned (.pointer (some ⟨m,0,none⟩))∧∃g p,Up20 w w' p g m 0:=by
 have DN:=yh (Jn.new9 w w.heap.size (Nat.le_refl _))
 go_enter Tryz.func9,Tryz.ntmps9
 go_wp2_with fail
 refine DN.out.mono ?_
 rintro _ w1 ⟨rfl,hd,hb,_⟩
 have OP:=yh (yh3 hd hb)
 clear hd hb DN
 generalize w.heap.size+1=g at *
 go_wp2_with fail
 refine OP.out.mono ?_
 rintro _ w2 ⟨p,rfl,hs⟩
 have HU:=yh hs
 clear hs OP
 go_wp2_with fail
 go_ret
 have hA:=HU.out.alloc WT (WS g p (.slice none 0 0) (.slice none 0 0) 0 0 false)
 refine⟨w2.heap.size,rfl,g,p,0,[],[],[],0,0,none,⟨0,0,false⟩,⟨rfl,by decide,by decide,by decide,by decide,fun s hs=>by simp at hs,rfl,rfl,Nat.le_refl _⟩,Mix.nil,Chain.nil _,fun k hk=>by simp at hk,by simp,⟨_,_,[],[],hA,InR.nil,InR.nil⟩⟩
end
section
open Go.RowKit
theorem yoy:(Tryz.prog.info? 36).map (·.size)=some 5:=by kernel_rfl
theorem yji {a b c:World}(h:Below a.heap.size a b)(k:Below b.heap.size b c):Below a.heap.size a c:=yaa h k
theorem yiq (A:Option Addr)(c:Nat)(l0:List Act20)(w:World)(hin:Act20sAt w w.heap.size A l0)(hT:Tab w):
 Calls Tryz.prog 6 #[.slice A l0.length c] w fun e w'=>e=.returned (.bool true)∧Below w.heap.size w w':=by
 have MD:=yh (yqp w)
 have AW:Hid (∀W,Below w.heap.size w W→Calls Tryz.prog 10 #[] W fun e w'=>e=.returned (.bool true)∧Below W.heap.size W w'):=yh (fun W hW=>yl8 W (hT.below hW hT.pos))
 have HT:=yh hT
 have HIn:=yh hin
 obtain⟨n,hn⟩:=yx (l0.length)
 have HN:=yh hn
 have hnm:n≤9223372036854775807:=by rw[←hn];exact hin.2.2.2
 have HNm:=yh hnm
 rw[hn]
 clear hin hn hT hnm
 go_enter Tryz.func6,Tryz.ntmps6
 go_wp2_with fail
 refine MD.out.mono ?_
 rintro _ w1 ⟨m,rfl,g,p,hu⟩
 have HU:=yh hu
 clear hu MD
 go_wp2_with fail
 refine(AW.out _ HU.out.low).mono ?_
 rintro _ w2 ⟨rfl,hb2⟩
 have HU2:=yh (HU.out.below hb2)
 clear hb2 AW HU
 go_upto_block 0 with fail
 go_cut [4] (fun s4 wc=>Up20 w wc p g m 40)
 case first=>
  go_wp2_with fail
  go_loopw [4] (fun s4 wr =>∃k:Nat,k≤n∧k≤40∧s4=.int .i64 k∧Up20 w wr p g m k) (fun i _=>n-(intOf i).toNat)
  case atStart=>exact⟨0,Nat.zero_le _,Nat.zero_le _,rfl,HU2.out⟩
  case round=>
   obtain⟨k,hk,hk4,rfl,hu⟩:=hrel
   have HU:=yh hu
   clear hu
   have hk0:(0:Int)≤(k:Int):=by omega
   by_cases hkn:k<n∧k<40
   · have hki:(k:Int)<(n:Int):=by omega
     have hk5:(k:Int)<40:=by omega
     have hka:k<l0.length:=by rw[HN.out];exact hkn.1
     have hkn1:=hkn.1
     obtain⟨gA,off,hAa,hga,hcl⟩:=HIn.out.1 (by intro e;rw[e]at hka;simp at hka)
     subst hAa
     have hxf:=HIn.out.2.2.1 _ (List.getElem_mem hka)
     have HXr:Hid (∀W,Below w.heap.size w W→W.rangeAt gA (off+k*5) l0[k].cells):=yh (fun W hW j v hv=>(hW.cell (p:=⟨gA,off+k*5+j,none⟩) hga).trans (hcl k hka j v hv))
     have HA5:=yh (Act20.yao hxf)
     have HDo:=yh (HU.out.do HT.out (by omega) l0[k] hxf)
     have HK4:Hid (k+1≤40):=yh hkn.2
     generalize l0[k].cells=CT at *
     clear hcl hga hxf hka hkn hk4
     go_wp2_with (first
      | ((with_reducible show wpList _ _ _ (⟨_,.load 36 (.tmp 29),_,_,_,_⟩::_) _ _);refine yac rfl 36 (.tmp 29) rfl gA (off+k*5) (rfl) CT _ (HXr.out _ HU.out.low) Tryz.underlying36 rfl (by rw[yoy,HA5.out]) ?_))
     refine HDo.out.mono ?_
     rintro _ w3 ⟨rfl,hu⟩
     have HU3:=yh hu
     clear hu HDo HU
     go_wp2_with fail
     exact⟨⟨k+1,by omega,HK4.out,by go_num,HU3.out⟩,by simp[intOf];omega⟩
   · have key :∀(Q:Prop),((¬k<n→Q)∧(k<n→¬k<40→Q))→Q:=fun Q h=>by
      by_cases q:k<n
      · exact h.2 q (fun q2=>hkn ⟨q,q2⟩)
      · exact h.1 q
     clear hkn
     have HU4:=yh (HU.out.le hk4)
     clear hk4
     refine key _ ⟨fun q=>?_,fun q q2=>?_⟩
     · have hki:(n:Int)≤(k:Int):=by omega
       clear q key
       go_wp2_with fail
       go_meet
       case rel=>exact HU4.out
     · have hki:(k:Int)<(n:Int):=by omega
       have hk5:(40:Int)≤(k:Int):=by omega
       clear q q2 key
       go_wp2_with fail
       go_meet
       case rel=>exact HU4.out
 case rest=>
 clear HU2 HIn HN HNm
 obtain⟨safe,all,rs,cs,rel,sc,o,j,hI,hM,hC,hG,hF,v0,u0,xr,yr,⟨q,B,Z,v,dv,cv,ha⟩,hi1,hi2⟩:=hcut
 have hl:=hM.len
 have HMl:=yh hl
 have HNc:Hid (cs.length≤40):=yh (by omega)
 have HNr:Hid (rs.length≤40):=yh (by omega)
 have HCh:=yh hC
 have HFt:=yh hG.fits
 have HDx:=yh (ha.below (Below.refl _ _).drew)
 generalize (-1:Int)=r at HDx
 generalize Jn.Jr.St o none=l at HDx
 generalize hbrk:false=brk at HDx
 have HCu:Hid (∀W,StAt w W p q B g Z v dv cv l r j rs cs (StC q B cv rel brk) ((m,WT,WS g p v0 u0 rel sc brk)::(xr++yr))→Calls Tryz.prog 16 #[.pointer (some ⟨p,0,none⟩)] W fun e w'=>(∃u,e=.returned u∧OwnL w' W.heap.size CtT 4 Ct.cells u cs)∧Below W.heap.size W w'):=yh (fun W h=>h.cutsC (by have:=HNc.out;omega))
 have HFr:Hid (∀W,StAt w W p q B g Z v dv cv l r j rs cs (StC q B cv rel brk) ((m,WT,WS g p v0 u0 rel sc brk)::(xr++yr))→Calls Tryz.prog 14 #[.pointer (some ⟨p,0,none⟩),.int .i64 0] W fun e w'=>(∃u,e=.returned u∧OwnL w' W.heap.size 64 68 Rp.cells u rs)∧Below W.heap.size W w'):=yh (fun W h=>by
  have elo:rs.drop (Od.lo rs.length 0)=rs:=by
   have:Od.lo rs.length 0=0:=by unfold Od.lo;rw[if_neg (by decide),if_pos (by omega)];rfl
   rw[this]
   rfl
  have:=h.fromC 0
  rw[elo]at this
  exact this)
 obtain⟨rows,hrows⟩:=yx (((m,WT,WS g p v0 u0 rel sc brk)::(xr++yr):Rws))
 rw[hrows]at HDx HCu HFr
 have HRo:=yh hrows.symm
 clear hI hM hC hG hF ha hi1 hi2 hl hbrk hrows
 go_upto_region 8 with fail
 refine wp_region_held_drew (S:=fun w'=>w'.cell? ⟨m,1,none⟩=some (.pointer (some ⟨p,0,none⟩))) (by kernel_rfl) ((ycd (HDx.out.brow (gx:=m) (T:=WT) (X:=WS g p v0 u0 rel sc brk) (by rw[HRo.out];simp))).2.1) (fun gH=>?_)
 generalize wc.drew=wq at *
 refine yg 0 (.pointer (some ⟨m,0,none⟩)) rfl gH ?_
 refine yg 1 (.pointer (some ⟨m,0,none⟩)) rfl gH ?_
 refine yg 2 (.pointer (some ⟨m,1,none⟩)) rfl gH ?_
 simp only[Act.put,Ya,Yb,Yc,Yd,Ye,Yf]
 refine yk 3 (.pointer (some ⟨p,0,none⟩)) rfl (fun w' hSw=>by have hq:=hSw;have hd:=hq;go_simp) gH ?_
 refine yg 5 (.pointer (some ⟨m,0,none⟩)) rfl gH ?_
 refine yg 6 (.pointer (some ⟨m,0,none⟩)) rfl gH ?_
 simp only[Act.put,Ya,Yb,Yc,Yd,Ye,Yf]
 refine yg 7 (.pointer (some ⟨m,1,none⟩)) rfl gH ?_
 refine yk 8 (.pointer (some ⟨p,0,none⟩)) rfl (fun w' hSw=>by have hq:=hSw;have hd:=hq;go_simp) gH ?_
 refine yR 4 (by kernel_rfl) rfl (fun K1 hK1=>?_)
 try simp only[Act.put,Ya,Yb,Yc,Yd,Ye,Yf]
 go_simp
 refine Calls.mono (HCu.out _ HDx.out) ?_
 rintro e wc1 ⟨⟨u,rfl,hou⟩,hb⟩
 obtain⟨AC,cC,rfl,hsc⟩:=hou.slC20 (by have:=HNc.out;omega)
 have HDx:=yh (HDx.out.below hb)
 have HSC:=yh hsc
 have eH:=(ycd (HDx.out.brow (gx:=m) (T:=WT) (X:=WS g p v0 u0 rel sc brk) (by rw[HRo.out];simp))).2.1
 clear hou hb hsc
 refine hK1.out _ _ eH (fun gH=>?_)
 clear hK1 K1
 clear eH
 refine yR 9 (by kernel_rfl) rfl (fun K1 hK1=>?_)
 try simp only[Act.put,Ya,Yb,Yc,Yd,Ye,Yf]
 go_simp
 refine Calls.mono (HFr.out _ HDx.out) ?_
 rintro e wc2 ⟨⟨u,rfl,hou⟩,hb⟩
 obtain⟨AL,cL,rfl,hsl⟩:=hou.slR20 HFt.out (by have:=HNr.out;omega)
 have HSC:=yh ((HSC.out.below hb).mono hb.size)
 have HSL:=yh hsl
 have HDx:=yh (HDx.out.below hb)
 have eH:=(ycd (HDx.out.brow (gx:=m) (T:=WT) (X:=WS g p v0 u0 rel sc brk) (by rw[HRo.out];simp))).2.1
 clear hou hb hsl
 refine hK1.out _ _ eH (fun gH=>?_)
 clear hK1 K1
 clear eH
 refine yg 10 (.slice AC cs.length cC) rfl gH ?_
 refine yg 11 (.slice AL rs.length cL) rfl gH ?_
 simp only[Act.put,Ya,Yb,Yc,Yd,Ye,Yf]
 refine wpAnyH_done (by kernel_rfl) ?_ _
 clear gH
 generalize wc2=wB at *
 have hlr:=HMl.out
 have hends:=HCh.out.end
 have HSt:Hid (∀W,Below wB.heap.size wB W→StAt w W p q B g Z v dv cv l r j rs cs (StC q B cv rel brk) rows):=yh (fun W hW=>HDx.out.below hW)
 have HOp:Hid (∀W,Below wB.heap.size wB W→Calls Tryz.prog 18 #[.pointer (some ⟨p,0,none⟩)] W fun e w'=>e=.returned (.int .i64 ((rs.length:Int)-ctSum cs cs.length))∧Below W.heap.size W w'):=yh (fun W hW=>by
  have:=(HSt.out W hW).open1 (HCh.out.ok (by have:=HNr.out;omega))
  unfold ctOpen at this
  rw[HCh.out.end]at this
  exact this)
 have HM1:Hid (∀W,Below wB.heap.size wB W→W.cell? ⟨m,1,none⟩=some (.pointer (some ⟨p,0,none⟩))):=yh (fun W hW=>(ycd ((HSt.out W hW).brow (gx:=m) (T:=WT) (X:=WS g p v0 u0 rel sc brk) (by rw[HRo.out];simp))).2.1)
 have HLo:=yh HDx.out.low
 have HTK:Hid (∀W mm,Below wB.heap.size wB W→Calls Tryz.prog 21 #[.slice AL rs.length cL,.int .i64 mm] W fun e w'=>e=.returned (.int .i64 (Od.rtake rs (Od.most rs.length mm)))∧W=w'):=yh (fun W mm hW=>yht rs AL cL mm W ((HSL.out.below hW).mono hW.size))
 have HCz:=yh HCh.out
 have HLs:Hid (∀k,k≤cs.length→0≤ctSum cs k∧ctSum cs k≤rs.length):=yh (fun k hk=>⟨by have:=HCh.out.low k hk;omega,HCh.out.high k hk⟩)
 clear hlr hends HDx HCh HCu HFr HFt HSL
 obtain⟨n,hn⟩:=yx (rs.length)
 obtain⟨nc,hnc⟩:=yx (cs.length)
 have HCs:Hid (∀k (hk:k<cs.length),∃gC oC,AC=some ⟨gC,oC,none⟩∧∀W,Below wB.heap.size wB W→W.rangeAt gC (oC+k*4) cs[k].cells):=yh (fun k hk=>by
  obtain⟨gC,oC,e,hg,hat⟩:=HSC.out.1 (by intro e;rw[e]at hk;simp at hk)
  exact⟨gC,oC,e,fun W hW r u hu=>(hW.cell (p:=⟨gC,oC+k*4+r,none⟩) hg).trans (hat k hk r u hu)⟩)
 rw[hn]at HTK HNr ⊢
 rw[hn,hnc]at HOp HLs
 rw[hnc]at HNc ⊢
 have HNl:=yh hnc
 have HNn:=yh hn
 clear hn hnc HSC
 go_wp2_with fail
 go_loopw [7,8] (fun s7 s8 wr =>∃k:Nat,k≤nc∧s8=.int .i64 k∧s7=.int .i64 (ctSum cs k)∧Below wB.heap.size wB wr) (fun _ i _=>nc-(intOf i).toNat)
 case atStart=>exact⟨0,Nat.zero_le _,rfl,rfl,Below.refl _ _⟩
 case round=>
  obtain⟨k,hk,rfl,rfl,hb⟩:=hrel
  have HB:=yh hb
  clear hb
  have hk0:(0:Int)≤(k:Int):=by omega
  have hn40:=HNc.out
  by_cases hkn:k<nc
  · as_aux_lemma=>
     have hki:(k:Int)<(nc:Int):=by omega
     have hkl:k<cs.length:=by rw[HNl.out];exact hkn
     obtain⟨gC,oC,hAC,hcc⟩:=HCs.out k hkl
     subst hAC
     obtain⟨b1,b2,b3,b4,b5⟩:=HCz.out k hkl
     have HNk:=yh (yb7 hkl)
     have HCc:Hid (∀W,Below wB.heap.size wB W→W.cell? ⟨gC,oC+k*4,none⟩=some (.int .i64 k)∧W.cell? ⟨gC,oC+k*4+1,none⟩=some (.int .i64 (ctSum cs k))∧W.cell? ⟨gC,oC+k*4+2,none⟩=some (.int .i64 (Od.rtake rs (Od.most n (ctSum cs k))))∧W.cell? ⟨gC,oC+k*4+3,none⟩=some (.int .i64 cs[k].count)):=yh (fun W hW=>by
      have hr:=hcc W hW
      refine⟨?_,?_,?_,?_⟩
      · rw[←b1];exact hr 0 _ rfl
      · rw[←b2];exact hr 1 _ rfl
      · rw[←HNn.out,←b4];exact hr 2 _ rfl
      · exact hr 3 _ rfl)
     have HTk:=yh (fun W hW=>HTK.out W (ctSum cs k) hW)
     have hls:=HLs.out k hk
     have hls2:=HLs.out (k+1) hkn
     rw[HNk.out]at hls2
     have hcn:1≤cs[k].count:=b3
     have hnr:=HNr.out
     generalize ctSum cs k=sk at *
     generalize cs[k].count=cn at *
     generalize (Od.rtake rs (Od.most n sk):Int)=tk at *
     have e22:decide (cn<1)=false:=decide_eq_false (by omega)
     have e44:IntKind.i64.wrap ((n:Int)-sk)=(n:Int)-sk:=IntWalk.i64_in _ (by omega)
     have e45:decide (cn>(n:Int)-sk)=false:=decide_eq_false (by omega)
     have e45':decide ((n:Int)-sk<cn)=false:=decide_eq_false (by omega)
     have e15:IntKind.i64.wrap (sk+cn)=sk+cn:=IntWalk.i64_in _ (by omega)
     clear hls hls2 hcn hnr hcc b1 b2 b3 b4 b5
     go_wp2_with fail
     refine wp_region_held_drew (S:=fun w'=>Below wB.heap.size wB w') (by kernel_rfl) (HB.out.drew) (fun gH=>?_)
     generalize wr.drew=wq at *
     try simp only[List.append_eq,List.cons_append,List.nil_append]
     refine yg 0 (.slice (some ⟨gC,oC,none⟩) nc cC) rfl gH ?_
     refine yg 1 (.int .i64 k) rfl gH ?_
     refine yg 2 (.pointer (some ⟨gC,oC+k*4,none⟩)) rfl gH ?_
     simp only[Act.put,Ya,Yb,Yc,Yd,Ye,Yf]
     refine yg 3 (.pointer (some ⟨gC,oC+k*4,none⟩)) rfl gH ?_
     refine yk 4 (.int .i64 k) rfl (fun w' hSw=>by have hq:=hSw;have hd:=(HCc.out _ hq).1;go_simp) gH ?_
     refine yg 5 (.int .i64 k) rfl gH ?_
     simp only[Act.put,Ya,Yb,Yc,Yd,Ye,Yf]
     refine yg 6 (.bool false) rfl gH ?_
     refine yg 7 (.bool false) rfl gH ?_
     refine yg 8 (.slice (some ⟨gC,oC,none⟩) nc cC) rfl gH ?_
     simp only[Act.put,Ya,Yb,Yc,Yd,Ye,Yf]
     refine yg 9 (.int .i64 k) rfl gH ?_
     refine yg 10 (.pointer (some ⟨gC,oC+k*4,none⟩)) rfl gH ?_
     refine yg 11 (.pointer (some ⟨gC,oC+k*4+1,none⟩)) rfl gH ?_
     simp only[Act.put,Ya,Yb,Yc,Yd,Ye,Yf]
     refine yk 12 (.int .i64 sk) rfl (fun w' hSw=>by have hq:=hSw;have hd:=(HCc.out _ hq).2.1;go_simp) gH ?_
     refine yg 13 (.int .i64 sk) rfl gH ?_
     refine yg 14 (.bool false) rfl gH ?_
     simp only[Act.put,Ya,Yb,Yc,Yd,Ye,Yf]
     refine yg 15 (.bool false) rfl gH ?_
     refine yg 16 (.bool false) rfl gH ?_
     refine yg 17 (.slice (some ⟨gC,oC,none⟩) nc cC) rfl gH ?_
     simp only[Act.put,Ya,Yb,Yc,Yd,Ye,Yf]
     refine yg 18 (.int .i64 k) rfl gH ?_
     refine yg 19 (.pointer (some ⟨gC,oC+k*4,none⟩)) rfl gH ?_
     refine yg 20 (.pointer (some ⟨gC,oC+k*4+3,none⟩)) rfl gH ?_
     simp only[Act.put,Ya,Yb,Yc,Yd,Ye,Yf]
     refine yk 21 (.int .i64 cn) rfl (fun w' hSw=>by have hq:=hSw;have hd:=(HCc.out _ hq).2.2.2;go_simp) gH ?_
     refine yg 22 (.bool false) rfl gH ?_
     refine yg 23 (.bool false) rfl gH ?_
     simp only[Act.put,Ya,Yb,Yc,Yd,Ye,Yf]
     refine yg 24 (.bool false) rfl gH ?_
     refine yg 25 (.slice (some ⟨gC,oC,none⟩) nc cC) rfl gH ?_
     refine yg 26 (.int .i64 k) rfl gH ?_
     simp only[Act.put,Ya,Yb,Yc,Yd,Ye,Yf]
     refine yg 27 (.pointer (some ⟨gC,oC+k*4,none⟩)) rfl gH ?_
     refine yg 28 (.pointer (some ⟨gC,oC+k*4+2,none⟩)) rfl gH ?_
     refine yk 29 (.int .i64 tk) rfl (fun w' hSw=>by have hq:=hSw;have hd:=(HCc.out _ hq).2.2.1;go_simp) gH ?_
     simp only[Act.put,Ya,Yb,Yc,Yd,Ye,Yf]
     refine yg 30 (.slice AL n cL) rfl gH ?_
     refine yg 31 (.int .i64 sk) rfl gH ?_
     refine yR 32 (by kernel_rfl) rfl (fun K1 hK1=>?_)
     try simp only[Act.put,Ya,Yb,Yc,Yd,Ye,Yf]
     go_simp
     refine Calls.mono (HTk.out _ gH) ?_
     rintro e _ ⟨rfl,rfl⟩
     refine hK1.out _ _ (gH) (fun gH=>?_)
     clear hK1 K1
     refine yg 33 (.bool false) rfl gH ?_
     refine yg 34 (.bool false) rfl gH ?_
     simp only[Act.put,Ya,Yb,Yc,Yd,Ye,Yf]
     refine yg 35 (.bool false) rfl gH ?_
     refine yg 36 (.slice (some ⟨gC,oC,none⟩) nc cC) rfl gH ?_
     refine yg 37 (.int .i64 k) rfl gH ?_
     simp only[Act.put,Ya,Yb,Yc,Yd,Ye,Yf]
     refine yg 38 (.pointer (some ⟨gC,oC+k*4,none⟩)) rfl gH ?_
     refine yg 39 (.pointer (some ⟨gC,oC+k*4+3,none⟩)) rfl gH ?_
     refine yk 40 (.int .i64 cn) rfl (fun w' hSw=>by have hq:=hSw;have hd:=(HCc.out _ hq).2.2.2;go_simp) gH ?_
     simp only[Act.put,Ya,Yb,Yc,Yd,Ye,Yf]
     refine yg 41 (.slice AL n cL) rfl gH ?_
     refine yg 42 (.int .i64 n) rfl gH ?_
     refine yg 43 (.int .i64 sk) rfl gH ?_
     simp only[Act.put,Ya,Yb,Yc,Yd,Ye,Yf]
     refine yg 44 (.int .i64 (n-sk)) rfl gH ?_
     refine yg 45 (.bool false) rfl gH ?_
     refine yg 46 (.bool false) rfl gH ?_
     simp only[Act.put,Ya,Yb,Yc,Yd,Ye,Yf]
     refine wpAnyH_done (by kernel_rfl) ?_ _
     have HB2:=yh gH
     have c3:=(HCc.out _ HB2.out).2.2.2
     clear gH HTk
     go_wp2_with fail
     exact⟨⟨k+1,by omega,by go_num,by rw[HNk.out],HB2.out⟩,by simp[intOf];omega⟩
  · have hki :¬(k:Int)<(nc:Int):=by omega
    obtain rfl:nc=k:=by omega
    have m1:=HM1.out _ HB.out
    have hls:=HLs.out nc (Nat.le_refl _)
    have hnr:=HNr.out
    obtain⟨ce,hce⟩:=yx (ctSum cs nc)
    rw[hce]at HOp hls ⊢
    have e44:IntKind.i64.wrap ((n:Int)-ce)=(n:Int)-ce:=IntWalk.i64_in _ (by omega)
    clear hce hls hnr
    go_wp2_with fail
    refine(HOp.out _ HB.out).mono ?_
    rintro _ w5 ⟨rfl,hb5⟩
    have HB5:=yh (yaa HB.out hb5)
    clear hb5 m1
    go_wp2_with fail
    go_ret
    exact⟨rfl,yji HLo.out HB5.out⟩
end
end Go.Proofs.YtalfnadejpmjnaaGreatDoor
