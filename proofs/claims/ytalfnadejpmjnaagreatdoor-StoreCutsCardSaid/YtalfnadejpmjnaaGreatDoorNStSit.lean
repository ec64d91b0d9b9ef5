/- A part. -/
import Derived.Test.YtalfnadejpmjnaaGreatDoorNStR
set_option linter.unusedVariables false
set_option linter.unusedSimpArgs false
set_option maxRecDepth 100000
set_option maxHeartbeats 25600000
namespace Go.Proofs.YtalfnadejpmjnaaGreatDoor
section
open Go.RowKit
structure InR {α : Type}(base:Nat)(e:TypeId)(m:Nat)(f : α→List Value)(v:Value)(l:List α)(xr:Rws):Prop where
 own :∀W:World,(∀x∈xr,Row W x.1 x.2.1 x.2.2)→OwnL W base e m f v l
 key :∀k,v.ownBlock=some k→∃x∈xr,x.1=k
 key' :∀x∈xr,v.ownBlock=some x.1
section
variable {α : Type} {w : World} {base : Nat} {e : TypeId} {m : Nat} {f : α → List Value} {v : Value} {l : List α}
theorem InR.nil:InR base e m f (.slice none 0 0) ([]:List α) []:=⟨fun W _=>OwnL.nil W base e m f,fun k hk=>by simp[Value.ownBlock]at hk,fun x hx=>by simp at hx⟩
theorem OwnL.inR (h:OwnL w base e m f v l) :∃xr,InR base e m f v l xr∧∀x∈xr,Row w x.1 x.2.1 x.2.2:=by
 rcases h.own.2 with⟨rfl,h0⟩|⟨g,cap,cur,hv,hb,hg,hr⟩
 · have e0:=List.length_eq_zero_iff.1 h0
   subst e0
   exact⟨[],InR.nil,fun x hx=>by simp at hx⟩
 · subst hv
   refine⟨[(g,e,cur.toList)],⟨fun W hW=>⟨h.own.1,.inr ⟨g,cap,cur,rfl,hb,?_,hr⟩⟩,fun k hk=>⟨_,List.mem_singleton.2 rfl,by simpa[Value.ownBlock] using hk⟩,fun x hx=>by rw[List.mem_singleton.1 hx];rfl⟩,fun x hx=>?_⟩
   · have:=hW _ (List.mem_singleton.2 rfl)
     unfold Row at this
     simpa using this
   · rw[List.mem_singleton.1 hx]
     unfold Row
     simpa using hg
end
abbrev WT:TypeId:=32
abbrev RpT:TypeId:=64
def WS (g p:Nat)(v u:Value)(safe sc:Int)(brk:Bool):List Value:=[.pointer (some ⟨g,0,none⟩),.pointer (some ⟨p,0,none⟩),v,u,.int .i64 safe,.int .i64 sc,.bool brk]
def Sit (w0 W:World)(p g m:Nat)(l:List Jn.Fl)(r:Int)(j:Jn.Jr.J)(rs:List Rp)(cs:List Ct)(rel:Int)(brk:Bool)(safe sc:Int)(bb:Bool)(L:List Rp)(C:List Ct):Prop:=
 ∃v u xr yr,St w0 W p g l r j rs cs rel brk ((m,WT,WS g p v u safe sc bb)::(xr++yr))∧InR w0.heap.size RpT 68 Rp.cells v L xr∧InR w0.heap.size CtT 4 Ct.cells u C yr
section
variable {w0 W W' : World} {p g m : Nat} {l l' : List Jn.Fl} {r r' : Int} {j j' : Jn.Jr.J} {rs rs' L L' : List Rp} {cs cs' C C' : List Ct} {rel rel' : Int} {brk brk' bb bb' : Bool} {safe sc safe' sc' : Int} {rows : Rws}
theorem St.sit {v u:Value}{xr yr:Rws}(h:St w0 W p g l r j rs cs rel brk ((m,WT,WS g p v u safe sc bb)::(xr++yr)))(h1:InR w0.heap.size RpT 68 Rp.cells v L xr)(h2:InR w0.heap.size CtT 4 Ct.cells u C yr):OwnL W w0.heap.size RpT 68 Rp.cells v L∧OwnL W w0.heap.size CtT 4 Ct.cells u C∧Row W m WT (WS g p v u safe sc bb):=by
 obtain⟨q,B,Z,x1,x2,x3,h⟩:=h
 exact⟨h1.own W fun x hx=>(h.rw x (by simp[hx])).1,h2.own W fun x hx=>(h.rw x (by simp[hx])).1,h.brow (by simp)⟩
theorem Sit.put {v u v' u':Value}{xr yr:Rws}(h:St w0 W p g l r j rs cs rel brk ((m,WT,WS g p v u safe sc bb)::(xr++yr)))(h1:InR w0.heap.size RpT 68 Rp.cells v L xr)(h2:InR w0.heap.size CtT 4 Ct.cells u C yr)
 (hc:Chg (fun k=>v.ownBlock=some k∨u.ownBlock=some k∨k=m) W W') (hv:OwnL W' w0.heap.size RpT 68 Rp.cells v' L') (hu:OwnL W' w0.heap.size CtT 4 Ct.cells u' C')
 (hv' :∀k,v'.ownBlock=some k→v.ownBlock=some k∨W.heap.size≤k) (hu' :∀k,u'.ownBlock=some k→u.ownBlock=some k∨W.heap.size≤k) (hr:Row W' m WT (WS g p v' u' safe' sc' bb')):
 Sit w0 W' p g m l r j rs cs rel brk safe' sc' bb' L' C':=by
 obtain⟨q,B,Z,x1,x2,x3,h⟩:=h
 obtain⟨xr',k1,r1⟩:=hv.inR
 obtain⟨yr',k2,r2⟩:=hu.inR
 have hlt:=h.own_lt
 have hold :∀x∈(m,WT,WS g p v u safe sc bb)::(xr++yr),¬Z x.1∧x.1≠q∧¬LS B x1 x2 x.1∧x.1≠p∧x3.ownBlock≠some x.1∧w0.heap.size≤x.1:=fun x hx=>(h.rw x hx).2
 have hk :∀k,(v.ownBlock=some k∨u.ownBlock=some k∨k=m)→¬Z k∧k≠q∧¬LS B x1 x2 k∧k≠p∧x3.ownBlock≠some k∧w0.heap.size≤k:=by
  rintro k (e|e|e)
  · obtain⟨x,hx,rfl⟩:=h1.key k e
    exact hold x (by simp[hx])
  · obtain⟨x,hx,rfl⟩:=h2.key k e
    exact hold x (by simp[hx])
  · subst e
    exact hold _ List.mem_cons_self
 have hnew :∀k,W.heap.size≤k→¬Z k∧k≠q∧¬LS B x1 x2 k∧k≠p∧x3.ownBlock≠some k∧w0.heap.size≤k:=fun k hk=>
  ⟨fun e=>by have:=hlt k (.inl e);omega,fun e=>by have:=hlt k (.inr (.inl e));omega,fun e=>by have:=hlt k (.inr (.inr (.inl e)));omega,fun e=>by have:=hlt k (.inr (.inr (.inr (.inl e))));omega,fun e=>by have:=hlt k (.inr (.inr (.inr (.inr e))));omega,Nat.le_trans h.low.size hk⟩
 refine⟨v',u',xr',yr',⟨q,B,Z,x1,x2,x3,h.chg hc (fun k e=>(hk k e).2.2.2.2.2) (fun k e=>?_) (fun x hx=>?_)⟩,k1,k2⟩
 · obtain⟨a1,a2,a3,a4,a5,a6⟩:=hk k e
   exact⟨a1,a2,a3,a5,a4⟩
 · rcases List.mem_cons.1 hx with rfl|hx
   · exact⟨hr,hk m (.inr (.inr rfl))⟩
   · rcases List.mem_append.1 hx with hx|hx
     · exact⟨r1 x hx,(hv' _ (k1.key' x hx)).elim (fun e=>hk _ (.inl e)) (fun e=>hnew _ e)⟩
     · exact⟨r2 x hx,(hu' _ (k2.key' x hx)).elim (fun e=>hk _ (.inr (.inl e))) (fun e=>hnew _ e)⟩
theorem Sit.below (h:Sit w0 W p g m l r j rs cs rel brk safe sc bb L C)(hb:Below W.heap.size W W'):Sit w0 W' p g m l r j rs cs rel brk safe sc bb L C:=by
 obtain⟨v,u,xr,yr,h,h1,h2⟩:=h
 exact⟨v,u,xr,yr,h.below hb,h1,h2⟩
theorem Sit.low (h:Sit w0 W p g m l r j rs cs rel brk safe sc bb L C):Below w0.heap.size w0 W:=by
 obtain⟨v,u,xr,yr,h,h1,h2⟩:=h
 exact h.low
end
end
section
open Go.RowKit
def ctSum (cs:List Ct)(k:Nat):Int:=((cs.take k).map Ct.count).sum
theorem yb7 {cs:List Ct}{k:Nat}(h:k<cs.length):ctSum cs (k+1)=ctSum cs k+cs[k].count:=by
 unfold ctSum
 rw[←List.take_append_getElem h,List.map_append,List.sum_append]
 simp
theorem yjc {cs:List Ct}(hc:CtsOk cs) :∀k,k≤cs.length→0≤ctSum cs k∧ctSum cs k≤k*1000
 | 0,_=>by unfold ctSum;simp
 | k+1,hk=>by
   have:=yjc hc k (by omega)
   have hb:=hc.2 _ (List.getElem_mem (show k<cs.length by omega))
   rw[yb7 (by omega)]
   omega
def wCut (L:List Rp)(C:List Ct)(n:Int):Ct:=⟨C.length,ctSum C C.length,Od.rtake L (Od.most L.length (ctSum C C.length)),n⟩
theorem ymc {W:World}{base m g p:Nat}{v u:Value}{safe sc:Int}{bb:Bool}{L:List Rp}{C:List Ct}(hr:Row W m WT (WS g p v u safe sc bb))(hL:OwnL W base RpT 68 Rp.cells v L)(hC:OwnL W base CtT 4 Ct.cells u C)(hc:CtsOk C)(hf :∀b∈L,b.Fits)(hl:L.length≤1000000)(nn:Int):
 Calls Tryz.prog 38 #[.pointer (some ⟨m,0,none⟩),.int .i64 nn] W fun e w'=>e=.returned (.agg (wCut L C nn).cells.toArray)∧Below W.heap.size W w':=by
 obtain⟨AL,cL,rfl,hs⟩:=hL.slR20 hf hl
 obtain⟨AC,cC,rfl,_,_⟩:=hC.form
 have hlt:=hr.lt
 have k2:=hr.cell 2 (by simp[WS])
 have k3:=hr.cell 3 (by simp[WS])
 simp only[WS,List.getElem_cons_zero,List.getElem_cons_succ]at k2 k3
 have hz:=yjb
 have HZ4:Hid (Ct.zero.cells.length=4):=yh rfl
 have HZ1:=yh (Ct.one Ct.zero)
 obtain⟨ZT,hZT⟩:=yx (Ct.zero.cells)
 rw[hZT]at hz HZ4 HZ1
 clear hZT
 have hb0:=(Below.refl W.heap.size W).alloc (Nat.le_refl _) (.cells ZT.toArray 52)
 have HB0:=yh hb0
 have HR0:=yh (Row.new W 52 ZT)
 obtain⟨n,hn⟩:=yx (C.length)
 have hn1:=hc.1
 have HK3:Hid (∀W',Below W.heap.size W W'→W'.cell? ⟨m,3,none⟩=some (.slice AC n cC)):=yh (fun W' hW=>by rw[←hn];exact(hW.cell (p:=⟨m,3,none⟩) hlt).trans k3)
 have HK2:Hid (∀W',Below W.heap.size W W'→W'.cell? ⟨m,2,none⟩=some (.slice AL L.length cL)):=yh (fun W' hW=>(hW.cell (p:=⟨m,2,none⟩) hlt).trans k2)
 have HKc:Hid (∀W' k (hk:k<C.length),Below W.heap.size W W'→∃gC,AC=some ⟨gC,0,none⟩∧W'.cell? ⟨gC,k*4+3,none⟩=some (.int .i64 C[k].count)):=yh (fun W' k hk hW=>by
  obtain⟨g2,cx,hg2,_,hgl⟩:=hC.ne (by intro e;rw[e]at hk;simp at hk)
  injection hg2 with ga gb gc
  subst ga
  exact⟨g2,rfl,(hW.cell (p:=⟨g2,k*4+3,none⟩) hgl).trans (hC.at (Ct.lens C) k hk 3 _ rfl)⟩)
 have HTk:Hid (∀W' x,Below W.heap.size W W'→Calls Tryz.prog 21 #[.slice AL L.length cL,.int .i64 x] W' fun e w'=>e=.returned (.int .i64 (Od.rtake L (Od.most L.length x)))∧W'=w'):=yh (fun W' x hW=>yht L AL cL x W' ((hs.below hW).mono hW.size))
 have HSm:=yh (fun k (h:k≤n)=>yjc hc k (by rw[hn];exact h))
 have HNx:=yh (fun k (h:k<C.length)=>yb7 h)
 have HCc:=yh (fun k (h:k<C.length)=>hc.2 _ (List.getElem_mem h))
 have HN:=yh hn
 have HW4:Hid (∀x,Tryz.prog.built 52 [(0,.int .i64 n),(1,.int .i64 (ctSum C n)),(2,.int .i64 x),(3,.int .i64 nn)]=some (Ct.cells ⟨n,ctSum C n,x,nn⟩).toArray):=yh (fun x=>ykp _ _ _ _)
 unfold wCut
 rw[hn]
 rw[hn]at hn1
 have TK:=yh (fun W' hW=>HTk.out W' (ctSum C n) hW)
 obtain⟨ce,hce⟩:=yx (ctSum C n)
 rw[hce]at TK HW4 ⊢
 obtain⟨tk,htk⟩:=yx ((Od.rtake L (Od.most L.length ce):Int))
 rw[htk]at TK ⊢
 have HBu:=yh (HW4.out tk)
 have HC4:Hid ((Ct.cells ⟨n,ce,tk,nn⟩).length=4):=yh rfl
 have HC1:=yh (Ct.one ⟨n,ce,tk,nn⟩)
 obtain⟨CR,hCR⟩:=yx (Ct.cells ⟨n,ce,tk,nn⟩)
 rw[hCR]at HBu HC4 HC1 ⊢
 have HCE:=yh hce
 clear hce htk hCR HW4 HTk
 clear hr hL hC hc hs hb0 hlt k2 k3 hn hf hl
 go_enter Tryz.func38,Tryz.ntmps38
 go_wp2_with fail
 obtain⟨W1,hW1⟩:=yx (W.alloc (.cells ZT.toArray 52))
 rw[hW1]at HB0 HR0
 simp only[hW1]
 clear hW1
 go_loopw [5,6] (fun s5 s6 wr =>∃k:Nat,k≤n∧s6=.int .i64 k∧s5=.int .i64 (ctSum C k)∧W1=wr) (fun _ i _=>n-(intOf i).toNat)
 case atStart=>exact⟨0,Nat.zero_le _,rfl,rfl,rfl⟩
 case round=>
  obtain⟨k,hk,rfl,rfl,rfl⟩:=hrel
  have hk0:(0:Int)≤(k:Int):=by omega
  have c3:=HK3.out _ HB0.out
  have hsm:=HSm.out k hk
  by_cases hkn:k<n
  · have hki:(k:Int)<(n:Int):=by omega
    have hkl:k<C.length:=by rw[HN.out];exact hkn
    obtain⟨gC,rfl,cc⟩:=HKc.out W1 k hkl HB0.out
    have hcb:=HCc.out k hkl
    have HNk:=yh (HNx.out k hkl)
    generalize C[k].count=cn at *
    have ew:IntKind.i64.wrap (ctSum C k+cn)=ctSum C k+cn:=IntWalk.i64_in _ (by omega)
    generalize ctSum C k=sk at *
    clear hsm hcb
    go_wp2_with fail
    exact⟨⟨k+1,by omega,by go_num,by rw[HNk.out],by first|rfl|trivial⟩,by simp[intOf];omega⟩
  · have hki :¬(k:Int)<(n:Int):=by omega
    obtain rfl:n=k:=by omega
    have HRw:=yh (HR0.out.below (Below.refl _ _).drew)
    clear hsm hk HSm
    rw[HCE.out]
    go_wp2_with fail
    refine wp_region_held_drew (S:=fun w'=>Below W.heap.size W w') (by kernel_rfl) (HB0.out.drew) (fun gH=>?_)
    generalize W1.drew=wq at *
    refine yg 0 (.pointer (some ⟨m,0,none⟩)) rfl gH ?_
    refine yg 1 (.pointer (some ⟨m,0,none⟩)) rfl gH ?_
    refine yg 2 (.pointer (some ⟨m,3,none⟩)) rfl gH ?_
    simp only[Act.put,Ya,Yb,Yc,Yd,Ye,Yf]
    refine yk 3 (.slice AC n cC) rfl (fun w' hSw=>by have hq:=hSw;have hd:=HK3.out _ hq;go_simp) gH ?_
    refine yg 4 (.int .i64 n) rfl gH ?_
    refine yg 5 (.int .i64 ce) rfl gH ?_
    simp only[Act.put,Ya,Yb,Yc,Yd,Ye,Yf]
    refine yg 6 (.pointer (some ⟨m,0,none⟩)) rfl gH ?_
    refine yg 7 (.pointer (some ⟨m,0,none⟩)) rfl gH ?_
    refine yg 8 (.pointer (some ⟨m,2,none⟩)) rfl gH ?_
    simp only[Act.put,Ya,Yb,Yc,Yd,Ye,Yf]
    refine yk 9 (.slice AL L.length cL) rfl (fun w' hSw=>by have hq:=hSw;have hd:=HK2.out _ hq;go_simp) gH ?_
    refine yg 10 (.int .i64 ce) rfl gH ?_
    refine yg 12 (.int .i64 nn) rfl gH ?_
    simp only[Act.put,Ya,Yb,Yc,Yd,Ye,Yf]
    refine yR 11 (by kernel_rfl) rfl (fun K1 hK1=>?_)
    try simp only[Act.put,Ya,Yb,Yc,Yd,Ye,Yf]
    go_simp
    refine Calls.mono (TK.out _ gH) ?_
    rintro e _ ⟨rfl,rfl⟩
    refine hK1.out _ _ (gH) (fun gH=>?_)
    clear hK1 K1
    refine' yl 13 (.agg CR.toArray) rfl (ybg (by rfl) 52 [(0,.tmp 30),(1,.tmp 31),(2,.tmp 37),(3,.tmp 38)] rfl [(0,.int .i64 n),(1,.int .i64 ce),(2,.int .i64 tk),(3,.int .i64 nn)] rfl CR.toArray HBu.out) gH ?_
    refine yR 14 (by kernel_rfl) rfl (fun K1 hK1=>?_)
    try simp only[Act.put,Ya,Yb,Yc,Yd,Ye,Yf]
    rw[if_pos (by rfl)]
    refine yar 52 (.tmp 4) (.tmp 39) rfl W.heap.size 0 CR _ _ rfl rfl HRw.out (by have:=HZ4.out;have:=HC4.out;omega) (by rw[yba,HC4.out]) HC1.out ?_
    intro ws1 hrS hgS
    rw[yad (HC4.out.trans HZ4.out.symm)]at hrS
    have HS9:=yh hrS
    have eH:=below_own gH hgS (fun k hk=>by cases hk;exact Nat.le_refl _)
    clear hrS hgS
    refine hK1.out _ _ eH (fun gH=>?_)
    clear hK1 K1
    clear eH
    refine wpAnyH_done (by kernel_rfl) ?_ _
    have HB9:=yh gH
    go_wp2_with fail
    refine bodyPost_ret (results_cell_row rfl _ _ W.heap.size 52 CR.toArray (0,0) _ rfl HS9.out Tryz.underlying52 rfl (by rw[yba];simp[HC4.out])) rfl ⟨rfl,HB9.out⟩
theorem yrq (a b c d:Int)(w:World):(Instr.field CtT (.agg #[.int .i64 a,.int .i64 b,.int .i64 c,.int .i64 d]) 1).run Tryz.prog w=.ok (.int .i64 b) w:=by rfl
theorem yjn {W:World}{base m g p:Nat}{v u:Value}{safe sc:Int}{bb:Bool}{L:List Rp}{C:List Ct}(hr:Row W m WT (WS g p v u safe sc bb))(hL:OwnL W base RpT 68 Rp.cells v L)(hC:OwnL W base CtT 4 Ct.cells u C)(hc:CtsOk C)(hf :∀b∈L,b.Fits)(hl:L.length≤1000000):
 Calls Tryz.prog 19 #[.pointer (some ⟨m,0,none⟩)] W fun e w'=>e=.returned (.int .i64 ((L.length:Int)-ctSum C C.length))∧Below W.heap.size W w':=by
 have hCU :∀W',Below W.heap.size W W'→Calls Tryz.prog 38 #[.pointer (some ⟨m,0,none⟩),.int .i64 0] W' fun e w'=>e=.returned (.agg (wCut L C 0).cells.toArray)∧Below W'.heap.size W' w':=fun W' hW=>ymc (hr.below hW) (hL.below hW) (hC.below hW) hc hf hl 0
 have CU:=yh hCU
 obtain⟨AL,cL,rfl,_,_⟩:=hL.form
 have hlt:=hr.lt
 have k2:=hr.cell 2 (by simp[WS])
 simp only[WS,List.getElem_cons_zero,List.getElem_cons_succ]at k2
 have hs:=yjc hc C.length (Nat.le_refl _)
 have hc1:=hc.1
 have ew:IntKind.i64.wrap ((L.length:Int)-ctSum C C.length)=(L.length:Int)-ctSum C C.length:=IntWalk.i64_in _ (by omega)
 unfold wCut Ct.cells at CU
 obtain⟨n,hn⟩:=yx (L.length)
 have HK2:Hid (∀W',Below W.heap.size W W'→W'.cell? ⟨m,2,none⟩=some (.slice AL n cL)):=yh (fun W' hW=>by rw[←hn];exact(hW.cell (p:=⟨m,2,none⟩) hlt).trans k2)
 rw[hn]at ew ⊢
 generalize (Od.rtake L _:Int)=tk at *
 generalize ctSum C C.length=ce at *
 generalize (C.length:Int)=nc at *
 clear hr hL hC hc hf hl hlt k2 hs hc1 hn hCU
 go_enter Tryz.func19,Tryz.ntmps19
 go_wp2_with fail
 have hHh:Below W.heap.size W W:=Below.refl _ _
 refine wp_region_held_drew (S:=fun w'=>Below W.heap.size W w') (by kernel_rfl) (hHh.drew) (fun gH=>?_)
 generalize W.drew=wq at *
 refine yg 0 (.pointer (some ⟨m,0,none⟩)) rfl gH ?_
 refine yg 1 (.pointer (some ⟨m,0,none⟩)) rfl gH ?_
 simp only[Act.put,Ya,Yb,Yc,Yd,Ye,Yf]
 refine yg 2 (.pointer (some ⟨m,2,none⟩)) rfl gH ?_
 refine yk 3 (.slice AL n cL) rfl (fun w' hSw=>by have hq:=hSw;have hd:=HK2.out _ hq;go_simp) gH ?_
 refine yg 4 (.int .i64 n) rfl gH ?_
 simp only[Act.put,Ya,Yb,Yc,Yd,Ye,Yf]
 refine yg 5 (.pointer (some ⟨m,0,none⟩)) rfl gH ?_
 refine yR 6 (by kernel_rfl) rfl (fun K1 hK1=>?_)
 try simp only[Act.put,Ya,Yb,Yc,Yd,Ye,Yf]
 go_simp
 refine Calls.mono (CU.out _ gH) ?_
 rintro e wc1 ⟨rfl,hb2⟩
 refine hK1.out _ _ (yaa gH hb2) (fun gH=>?_)
 clear hK1 K1
 refine yk 7 (.int .i64 ce) rfl (fun w' hSw=>by have hq:=hSw;(have hd:=yrq nc ce tk 0 w');go_simp) gH ?_
 refine yg 8 (.int .i64 ((n:Int)-ce)) rfl gH ?_
 simp only[Act.put,Ya,Yb,Yc,Yd,Ye,Yf]
 refine yg 9 (.int .i64 ((n:Int)-ce)) rfl gH ?_
 refine wpAnyH_done (by kernel_rfl) ?_ _
 have HB9:=yh gH
 go_wp2_with fail
 go_ret
 exact⟨rfl,HB9.out⟩
end
section
open Go.RowKit
def Chain (rs:List Rp)(cs:List Ct):Prop :=∀k (h:k<cs.length),cs[k].seq=k∧cs[k].first=ctSum cs k∧1≤cs[k].count∧cs[k].before=Od.rtake rs (Od.most rs.length (ctSum cs k))∧ctSum cs (k+1)≤rs.length
theorem Chain.nil (rs:List Rp):Chain rs []:=fun k h=>by simp at h
section
variable {rs : List Rp} {cs : List Ct}
theorem Chain.low (h:Chain rs cs) :∀k,k≤cs.length→(k:Int)≤ctSum cs k
 | 0,_=>by unfold ctSum;simp
 | k+1,hk=>by
   have h1:=h.low k (by omega)
   have h2:=(h k (by omega)).2.2.1
   rw[yb7 (by omega)]
   omega
theorem Chain.high (h:Chain rs cs) :∀k,k≤cs.length→ctSum cs k≤rs.length
 | 0,_=>by unfold ctSum;simp
 | k+1,hk=>(h k (by omega)).2.2.2.2
theorem Chain.ok (h:Chain rs cs)(hl:rs.length≤1000):CtsOk cs:=by
 have h1:=h.low cs.length (Nat.le_refl _)
 have h2:=h.high cs.length (Nat.le_refl _)
 refine⟨by omega,fun c hc=>?_⟩
 obtain⟨k,hk,rfl⟩:=List.getElem_of_mem hc
 obtain⟨a1,a2,a3,a4,a5⟩:=h k hk
 have h3:=h.low k (by omega)
 have h4:=h.high k (by omega)
 rw[yb7 hk]at a5
 omega
theorem Chain.end (h:Chain rs cs):ctEnd cs=ctSum cs cs.length:=by
 match hn:cs.length with
 | 0=>rw[List.length_eq_zero_iff.1 hn];rfl
 | n+1=>
   have hk:n<cs.length:=by omega
   rw[yjd hn,yb7 hk,(h n hk).2.1]
theorem Chain.next (h:Chain rs cs)(hg:Od.Good rs){n:Int}(he:(ctNext rs cs n).2=0):1≤n∧n≤(rs.length:Int)-ctSum cs cs.length∧(ctNext rs cs n).1=wCut rs cs n:=by
 unfold ctNext ctOpen at he ⊢
 rw[h.end]at he ⊢
 split at he
 · cases he
 · split at he
   · cases he
   · next h1 h2=>
     rw[if_neg h1,if_neg h2]
     refine⟨by omega,by omega,?_⟩
     simp only[wCut,Od.ygf hg]
theorem yea (c:Ct)(k:Nat)(hk:k≤cs.length):ctSum (cs ++ [c]) k=ctSum cs k:=by
 unfold ctSum
 rw[List.take_append_of_le_length hk]
theorem Chain.push (h:Chain rs cs){n:Int}(h1:1≤n)(h2:n≤(rs.length:Int)-ctSum cs cs.length):Chain rs (cs ++ [wCut rs cs n]):=by
 intro k hk
 rw[List.length_append,List.length_singleton]at hk
 have hs:ctSum (cs ++ [wCut rs cs n]) (cs.length+1)=ctSum cs cs.length+n:=by
  rw[yb7 (by simp),yea _ _ (Nat.le_refl _),List.getElem_append_right (Nat.le_refl _)]
  simp[wCut]
 rcases Nat.lt_or_ge k cs.length with q|q
 · rw[List.getElem_append_left q,yea _ _ (by omega),yea _ _ (by omega)]
   exact h k q
 · obtain rfl:k=cs.length:=by omega
   rw[hs,yea _ _ (Nat.le_refl _),List.getElem_append_right (Nat.le_refl _)]
   simp only[Nat.sub_self,List.getElem_cons_zero,wCut]
   refine⟨trivial,trivial,h1,trivial,by omega⟩
theorem ynj (x:Rp)(k:Nat)(hk:k≤rs.length):Od.rtake (rs ++ [x]) k=Od.rtake rs k:=by
 unfold Od.rtake
 rw[List.take_append_of_le_length hk]
theorem yi0 {n:Nat}{m:Int}(h0:0≤m)(h1:m≤n):Od.most n m=m.toNat:=by
 unfold Od.most
 split
 · omega
 · split <;> omega
theorem Chain.more (h:Chain rs cs)(x:Rp):Chain (rs ++ [x]) cs:=by
 intro k hk
 obtain⟨a1,a2,a3,a4,a5⟩:=h k hk
 have h3:=h.low k (by omega)
 have h4:=h.high k (by omega)
 refine⟨a1,a2,a3,?_,by rw[List.length_append,List.length_singleton];omega⟩
 rw[a4,yi0 (by omega) h4,yi0 (by omega) (by rw[List.length_append,List.length_singleton];omega),ynj _ _ (by omega)]
end
end
section
open Go.RowKit
inductive Mix:List (List UInt8)→List Rp→List Ct→Prop
 | nil:Mix [] [] []
 | rc {all:List (List UInt8)}{rs:List Rp}{cs:List Ct}{x:Rp} : Mix all rs cs→x.Fits→Od.fitsIn rs x→Mix (all ++ [x.rcd]) (rs ++ [x]) cs
 | ct {all:List (List UInt8)}{rs:List Rp}{cs:List Ct}{c:Ct} : Mix all rs cs→ctNext rs cs c.count=(c,0)→Mix (all ++ [c.rcd]) rs (cs ++ [c])
theorem Mix.len {all:List (List UInt8)}{rs:List Rp}{cs:List Ct}(h:Mix all rs cs):all.length=rs.length+cs.length:=by
 induction h with
 | nil=>rfl
 | rc h hf hx ih=>simp only[List.length_append,List.length_singleton];omega
 | ct h hx ih=>simp only[List.length_append,List.length_singleton];omega
theorem Mix.take {all:List (List UInt8)}{rs:List Rp}{cs:List Ct}(h:Mix all rs cs) :∀k,k≤all.length→∃a b,a≤rs.length∧b≤cs.length∧a+b=k∧Mix (all.take k) (rs.take a) (cs.take b):=by
 induction h with
 | nil=>
   intro k hk
   obtain rfl:k=0:=by simpa using hk
   exact⟨0,0,Nat.le_refl _,Nat.le_refl _,rfl,Mix.nil⟩
 | @rc all rs cs x h hf hx ih=>
   intro k hk
   rw[List.length_append,List.length_singleton]at hk
   rcases Nat.lt_or_ge all.length k with q|q
   · have hl:=h.len
     refine⟨rs.length+1,cs.length,by simp,Nat.le_refl _,by omega,?_⟩
     rw[List.take_of_length_le (by simp;omega),List.take_of_length_le (by simp),List.take_of_length_le (Nat.le_refl _)]
     exact Mix.rc h hf hx
   · obtain⟨a,b,h1,h2,h3,h4⟩:=ih k q
     refine⟨a,b,by simp;omega,h2,h3,?_⟩
     rw[List.take_append_of_le_length q,List.take_append_of_le_length h1]
     exact h4
 | @ct all rs cs c h hx ih=>
   intro k hk
   rw[List.length_append,List.length_singleton]at hk
   rcases Nat.lt_or_ge all.length k with q|q
   · have hl:=h.len
     refine⟨rs.length,cs.length+1,Nat.le_refl _,by simp,by omega,?_⟩
     rw[List.take_of_length_le (by simp;omega),List.take_of_length_le (Nat.le_refl _),List.take_of_length_le (by simp)]
     exact Mix.ct h hx
   · obtain⟨a,b,h1,h2,h3,h4⟩:=ih k q
     refine⟨a,b,h1,by simp;omega,h3,?_⟩
     rw[List.take_append_of_le_length q,List.take_append_of_le_length h2]
     exact h4
theorem yp5 :∀(rs:List Rp),Od.Good rs→(∀x∈rs,x.Fits)→∀k,k≤rs.length→Mix ((rs.take k).map Rp.rcd) (rs.take k) []
 | rs,hg,hf,0,_=>by rw[List.take_zero];exact Mix.nil
 | rs,hg,hf,k+1,hk=>by
   have h:=yp5 rs hg hf k (by omega)
   have hlt:k<rs.length:=by omega
   rw[←List.take_append_getElem hlt,List.map_append]
   refine Mix.rc h (hf _ (List.getElem_mem hlt)) ?_
   obtain⟨who,hw⟩:=hg k hlt
   exact⟨by rw[hw],by rw[hw]⟩
theorem Chain.at (rs:List Rp)(cs:List Ct)(h:Chain rs cs)(hg:Od.Good rs)(k:Nat)(hk:k<cs.length):ctNext rs (cs.take k) cs[k].count=(cs[k],0):=by
 obtain⟨a1,a2,a3,a4,a5⟩:=h k hk
 have ht:Chain rs (cs.take k):=by
  intro i hi
  have hi2:i<k∧i<cs.length:=by rw[List.length_take]at hi;omega
  have e :∀j,j≤k→ctSum (cs.take k) j=ctSum cs j:=fun j hj=>by
   unfold ctSum
   rw[List.take_take,Nat.min_eq_left hj]
  rw[e i (by omega),e (i+1) (by omega),List.getElem_take]
  exact h i hi2.2
 have hs:ctSum (cs.take k) (cs.take k).length=ctSum cs k:=by
  have:(cs.take k).length=k:=by rw[List.length_take];omega
  unfold ctSum
  rw[this,List.take_take,Nat.min_self]
 have hl:(cs.take k).length=k:=by rw[List.length_take];omega
 unfold ctNext ctOpen
 rw[ht.end,hs]
 rw[yb7 hk]at a5
 rw[if_neg (by omega),if_neg (by omega),hl,Od.ygf hg]
 rw[Prod.mk.injEq]
 refine⟨?_,rfl⟩
 generalize cs[k]=c at *
 cases c
 simp only at a1 a2 a4 ⊢
 rw[a1,a2,a4]
theorem Mix.recs {rs:List Rp}{cs:List Ct}(hg:Od.Good rs)(hf :∀x∈rs,x.Fits)(h:Chain rs cs):Mix (recs rs cs) rs cs:=by
 have h0:=yp5 rs hg hf rs.length (Nat.le_refl _)
 rw[List.take_length]at h0
 have :∀k,k≤cs.length→Mix (rs.map Rp.rcd++(cs.take k).map Ct.rcd) rs (cs.take k):=by
  intro k
  induction k with
  | zero=>intro _;rw[List.take_zero,List.map_nil,List.append_nil];exact h0
  | succ k ih=>
    intro hk
    have hlt:k<cs.length:=by omega
    rw[←List.take_append_getElem hlt,List.map_append,←List.append_assoc]
    exact Mix.ct (ih (by omega)) (h.at rs cs hg k hlt)
 have:=this cs.length (Nat.le_refl _)
 rwa[List.take_length]at this
end
section
open Go.RowKit
section
variable {o : Option (List UInt8 × Int)} {j : Jn.Jr.J} {all : List (List UInt8)} {safe : Nat}
theorem Inv.short (h:Jn.Jr.Inv o j all safe)(hn:all.length≤200):(Jn.Jr.by_ o).length≤821800:=by
 have:=Jn.Jr.lays_len_le 0 all h.small
 rw[h.bytes]
 omega
theorem Inv.yt6 (h:Jn.Jr.Inv o j all safe)(hn:all.length≤200)(s:List UInt8)(hs:s.length≤4096) :∃o' j',Jn.Jr.addR (Jn.Jr.St o none) (-1) j s=(Jn.Jr.St o' none,-1,j',0)∧Jn.Jr.Inv o' j' (all ++ [s]) safe:=by
 have hb:=Inv.short h hn
 have hl:=Jn.Jr.lay_le j.len s
 have ha:Jn.appendR (Jn.Jr.St o none) (-1) Jn.Jr.nj (Jn.Jr.lay j.len s)=(Jn.Jr.St (some (Jn.Jr.by_ o++Jn.Jr.lay j.len s,Jn.Jr.sf o)) none,-1,0):=by
  rw[Jn.Jr.append_j (by decide),if_neg (by omega)]
  rfl
 have e:Jn.Jr.addR (Jn.Jr.St o none) (-1) j s=(Jn.Jr.St (some (Jn.Jr.by_ o++Jn.Jr.lay j.len s,Jn.Jr.sf o)) none,-1,⟨j.len+1,j.synced,false⟩,0):=by
  unfold Jn.Jr.addR
  rw[if_neg (by rw[h.ok];simp),if_neg (by omega),ha,if_neg (by simp)]
 have hh:=h.add (r:=-1) s hs
 rw[e]at hh
 rcases hh with⟨_,o',h1,h2⟩|⟨h0,_⟩
 · simp only at h1 h2
   exact⟨o',_,by rw[e,h1],h2⟩
 · exact absurd rfl h0
theorem Inv.yue (h:Jn.Jr.Inv o j all safe) :∃o' j',Jn.Jr.syncJ (Jn.Jr.St o none) (-1) j=(Jn.Jr.St o' none,-1,j',0)∧Jn.Jr.Inv o' j' all all.length:=by
 have hok:=h.ok
 have e:(Jn.Jr.syncJ (Jn.Jr.St o none) (-1) j).2.1 = -1∧(Jn.Jr.syncJ (Jn.Jr.St o none) (-1) j).2.2.2=0:=by
  by_cases hj:j.len=0
  · unfold Jn.Jr.syncJ
    rw[if_neg (by rw[hok];simp),if_pos hj]
    exact⟨rfl,rfl⟩
  · cases o with
    | none=>
      have hz:=Jn.Jr.lays_nil (i:=0) (L:=all) (by rw[←h.bytes];rfl)
      exact absurd (by rw[h.len,hz];rfl) hj
    | some p=>
      have ha:Jn.syncR (Jn.Jr.St (some p) none) (-1) Jn.Jr.nj=(Jn.Jr.St (some (p.1,(p.1.length:Int))) none,-1,0):=by
       rw[Jn.Jr.sync_j (by decide)]
       rfl
      unfold Jn.Jr.syncJ
      rw[if_neg (by rw[hok];simp),if_neg hj,ha,if_neg (by simp)]
      exact⟨rfl,rfl⟩
 rcases h.sync (r:=-1) with⟨h0,o',h1,h2⟩|⟨h0,_⟩
 · refine⟨o',_,?_,h2⟩
   exact Prod.ext h1 (Prod.ext e.1 (Prod.ext rfl e.2))
 · exact absurd e.2 h0
theorem Inv.ysr (h:Jn.Jr.Inv o j all safe)(m:List (List UInt8))(hn:m.length≤200)(hm :∀s∈m,s.length≤4096) :∃o' j',Jn.Jr.renewR (Jn.Jr.St o none) (-1) j m=(Jn.Jr.St o' none,-1,j',0)∧Jn.Jr.Inv o' j' m m.length:=by
 have hl:=Jn.Jr.lays_len_le 0 m hm
 have hrp:=Jn.Jr.replace_up o (Jn.Jr.lays 0 m) (by omega)
 have e:Jn.Jr.renewR (Jn.Jr.St o none) (-1) j m=(Jn.Jr.St (some (Jn.Jr.lays 0 m,((Jn.Jr.lays 0 m).length:Int))) none,-1,⟨m.length,m.length,false⟩,0):=by
  unfold Jn.Jr.renewR
  rw[if_neg (by rw[h.ok];simp),if_neg (by simpa using hm),hrp,if_neg (by simp)]
 have hh:=h.renew (r:=-1) m hm
 rw[e]at hh
 rcases hh with⟨_,o',h1,h2⟩|⟨h0,_⟩
 · simp only at h1 h2
   exact⟨o',_,by rw[e,h1],h2⟩
 · exact absurd rfl h0
end
theorem Mix.small {all:List (List UInt8)}{rs:List Rp}{cs:List Ct}(h:Mix all rs cs) :∀s∈all,s.length≤1000:=by
 induction h with
 | nil=>intro s hs;simp at hs
 | rc h hf hx ih=>
   intro s hs
   rcases List.mem_append.1 hs with q|q
   · exact ih s q
   · rw[List.mem_singleton.1 q];exact Rp.yc2 hf.prev hf.hash
 | ct h hx ih=>
   intro s hs
   rcases List.mem_append.1 hs with q|q
   · exact ih s q
   · rw[List.mem_singleton.1 q];exact Ct.yc2 _
end
section
open Go.ChangeShapes Go.WideShapes Go.ChangeAt Go.RowKit Go.Joins Go.Deep
theorem yet {cs seg rest:List Value}{o s:Nat}(h1:(cs.drop o).take s=seg)(h2:cs.drop (o+s)=rest):cs.drop o=seg++rest:=by
 rw[←h1,←h2,←List.drop_drop,List.take_append_drop]
theorem ysi {H:Type}{s:ByteArray}{T:TypeId}{d:DataW H}(hwt :∀n∈d.weights Tryz.prog T,n≤reachBytes)(hm:s.data.toList.length∈d.weights Tryz.prog T):s.size≤140737488351232:=by
 have h6:=hwt _ hm
 have h7:reachBytes=140737488351232:=by decide
 have h8:s.data.toList.length=s.size:=rfl
 omega
structure Act20 where
 kind:Int
 mkind:Int
 later:Int
 n:Int
 body:ByteArray
def Act20.cells (x:Act20):List Value:=[.int .i64 x.kind]++([.int .i64 x.mkind]++([.int .i64 x.later]++([.int .i64 x.n]++([.string x.body] ++ []))))
structure Act20.Fits (x:Act20):Prop where
 kind:(-9223372036854775808≤x.kind∧x.kind≤9223372036854775807)
 mkind:(-9223372036854775808≤x.mkind∧x.mkind≤9223372036854775807)
 later:(-9223372036854775808≤x.later∧x.later≤9223372036854775807)
 n:(-9223372036854775808≤x.n∧x.n≤9223372036854775807)
 body:x.body.size≤140737488351232
theorem Act20.yao {x:Act20}(h:x.Fits):x.cells.length=5:=by
 unfold Act20.cells
 simp only[List.length_append,List.length_cons,List.length_nil]
section
variable {H : Type} {enc : TypeId × Value → H} {fuel : Nat}
theorem yl9 {W:World}{cs:List Value}{x:DataW H×List MemPlace}(hcs:cs.length=5)(h:DataW.trod enc Tryz.prog W 0 (fun _=>true) true fuel 36 cs=some x)
 (hwt :∀n∈x.1.weights Tryz.prog 36,n≤reachBytes) :∃y:Act20,y.Fits∧cs=y.cells:=by
 obtain⟨xs,n,_,hx,_,hlen,hg⟩:=DataW.trod_struct Tryz.underlying36 h
 have h0:DataW.trod enc Tryz.prog W 0 (fun _=>true) true n 3 ((cs.drop 0).take (Tryz.prog.cellsOf 3))=xs[0]?:=hg 0 _ rfl
 rw[show Tryz.prog.cellsOf 3=1 by kernel_rfl]at h0
 have h1:DataW.trod enc Tryz.prog W 0 (fun _=>true) true n 3 ((cs.drop 1).take (Tryz.prog.cellsOf 3))=xs[1]?:=hg 1 _ rfl
 rw[show Tryz.prog.cellsOf 3=1 by kernel_rfl]at h1
 have h2:DataW.trod enc Tryz.prog W 0 (fun _=>true) true n 3 ((cs.drop 2).take (Tryz.prog.cellsOf 3))=xs[2]?:=hg 2 _ rfl
 rw[show Tryz.prog.cellsOf 3=1 by kernel_rfl]at h2
 have h3:DataW.trod enc Tryz.prog W 0 (fun _=>true) true n 3 ((cs.drop 3).take (Tryz.prog.cellsOf 3))=xs[3]?:=hg 3 _ rfl
 rw[show Tryz.prog.cellsOf 3=1 by kernel_rfl]at h3
 have h4:DataW.trod enc Tryz.prog W 0 (fun _=>true) true n 9 ((cs.drop 4).take (Tryz.prog.cellsOf 9))=xs[4]?:=hg 4 _ rfl
 rw[show Tryz.prog.cellsOf 9=1 by kernel_rfl]at h4
 match xs,hlen with
 | [y0,y1,y2,y3,y4],_=>
   have hde:x.1=.agg [y0.1,y1.1,y2.1,y3.1,y4.1]:=by rw[hx];rfl
   obtain⟨n0,e0,f0,w0⟩:=DataW.trod_int Tryz.underlying3 h0
   obtain⟨n1,e1,f1,w1⟩:=DataW.trod_int Tryz.underlying3 h1
   obtain⟨n2,e2,f2,w2⟩:=DataW.trod_int Tryz.underlying3 h2
   obtain⟨n3,e3,f3,w3⟩:=DataW.trod_int Tryz.underlying3 h3
   obtain⟨n4,e4,f4,w4⟩:=DataW.trod_string Tryz.underlying9 h4
   refine⟨⟨n0,n1,n2,n3,n4⟩,⟨bounds_i64 w0,bounds_i64 w1,bounds_i64 w2,bounds_i64 w3,ysi hwt (by rw[hde,f4];unfold DataW.weights;rw[Tryz.underlying36];exact DataW.weights_mem_each (j:=4) (t:=9) (d:=.lit (.string n4.data.toList)) rfl rfl _ (by simp[DataW.weights]))⟩,?_⟩
   have e:=yet (o:=0) (s:=1) e0 (yet (o:=1) (s:=1) e1 (yet (o:=2) (s:=1) e2 (yet (o:=3) (s:=1) e3 (yet (o:=4) (s:=1) e4 (List.drop_of_length_le (by rw[hcs];decide))))))
   rw[List.drop_zero]at e
   exact e
end
theorem yqa {α : Type}(W:World)(a:Addr)(n m sz:Nat)(hnm:n≤m)(C : α→List Value)(P:Nat→α→Prop)(hC :∀x,∃v,(C x)[0]? = some v)(hdef : α)
 (h :∀i,i<m→∃x : α,(∀j v,(C x)[j]? = some v→W.cell? ((a.add (i*sz)).add j)=some v)∧P i x):
 ∃(f:Nat→α) ,(∀i,i<n→P i (f i))∧(0<n→∃b off,a=⟨b,off,none⟩∧b<W.heap.size∧∀i,i<n→W.rangeAt b (off+i*sz) (C (f i))):=by
 by_cases hn:n=0
 · subst hn
   exact⟨fun _=>hdef,fun i hi=>absurd hi (by omega),fun h0=>absurd h0 (by omega)⟩
 · obtain⟨x0,_⟩:=h 0 (by omega)
   have hch :∃f:Nat→α,∀i,i<n→(∀j v,(C (f i))[j]? = some v→W.cell? ((a.add (i*sz)).add j)=some v)∧P i (f i):=by
    refine⟨fun i=>if h':i<n then (h i (by omega)).choose else x0,fun i hi=>?_⟩
    simp only[dif_pos hi]
    exact(h i (by omega)).choose_spec
   obtain⟨f,hf⟩:=hch
   refine⟨f,fun i hi=>(hf i hi).2,fun h0=>?_⟩
   obtain⟨v,hv⟩:=hC (f 0)
   have hc0:=(hf 0 h0).1 0 v hv
   have ez:(a.add (0*sz)).add 0=a:=by simp[Addr.add]
   rw[ez]at hc0
   have hsp:=World.cell?_spot hc0
   have hblt:=World.block_lt_of_cell? W a hc0
   obtain⟨b,off,sp⟩:=a
   subst hsp
   have hadd :∀k i,(⟨b,k,none⟩:Addr).add i=⟨b,k+i,none⟩:=fun k i=>by unfold Addr.add;split <;> simp_all
   refine⟨b,off,rfl,hblt,fun i hi j v hv=>?_⟩
   have:=(hf i hi).1 j v hv
   rwa[hadd,hadd]at this
section
variable {H : Type} {enc : TypeId × Value → H} {W : World} {r : Reach} {b0 : Nat} {v : Value} {d : DataW H} {ps : List MemPlace} {ts : List TypeId} {ds : List (DataW H)} {j : Nat}
def Act20sAt (W:World)(B:Nat)(A:Option Addr)(l:List Act20):Prop:=
 (l≠[]→∃b off,A=some ⟨b,off,none⟩∧b<B∧∀i (h:i<l.length),W.rangeAt b (off+i*5) l[i].cells)∧(A=none→l=[])∧(∀x∈l,x.Fits)∧l.length≤9223372036854775807
theorem Act20sAt.below {W W':World}{B:Nat}{A:Option Addr}{l:List Act20}(h:Act20sAt W B A l)(hb:Below B W W'):Act20sAt W' B A l:=
 ⟨fun hne=>by
  obtain⟨b,off,h1,h2,h3⟩:=h.1 hne
  exact⟨b,off,h1,h2,fun i hi=>(fun j v hv=>by
   have:=h3 i hi j v hv
   rw[←this];exact hb.cell (p:=⟨b,off+i*5+j,none⟩) h2)⟩,h.2.1,h.2.2⟩
theorem Act20sAt.mono {W:World}{B B':Nat}{A:Option Addr}{l:List Act20}(h:Act20sAt W B A l)(hB:B≤B'):Act20sAt W B' A l:=
 ⟨fun hne=>by
  obtain⟨b,off,h1,h2,h3⟩:=h.1 hne
  exact⟨b,off,h1,by omega,h3⟩,h.2⟩
theorem yls (hv:Value.okWide Tryz.prog W r b0 22 v)(h:DataW.Trod enc Tryz.prog W 0 (fun _=>true) true 22 v d ps)
 (hsz:(DataW.weightsEach Tryz.prog ts ds).all (·≤reachBytes)=true) (ht:ts[j]? = some 22) (hd:ds[j]? = some d):
 ∃(A:Option Addr) (c:Nat) (l:List Act20),v=.slice A l.length c∧l.length≤c∧Act20sAt W W.heap.size A l:=by
 have hwt :∀n∈d.weights Tryz.prog 22,n≤reachBytes:=fun n hn=>by
  have:=List.all_eq_true.1 hsz _ (DataW.weights_mem_each ht hd n hn)
  simpa using this
 obtain⟨A,n,cap,rfl⟩:=okWide_slice Tryz.underlying22 hv
 obtain⟨fuel,hf⟩:=h
 have hC:Tryz.prog.cellsOf 36=5:=by kernel_rfl
 rcases open_slice Tryz.underlying22 hf with⟨hcs,hx⟩|⟨a,len,cap',m,n',D,Pl,hcs,_,hlc,hcm,hm,hx,hi⟩
 · have hcs':Value.slice A n cap=.slice none 0 0:=by simpa[Value.cells] using hcs
   injection hcs' with e1 e2 e3
   subst e1 e2 e3
   exact⟨none,0,[],rfl,Nat.le_refl _,fun hne=>absurd rfl hne,fun _=>rfl,by simp,by simp⟩
 · have hcs':Value.slice A n cap=.slice (some a) len cap':=by simpa[Value.cells] using hcs
   injection hcs' with e1 e2 e3
   subst e1 e2 e3
   rw[if_pos rfl]at hm
   subst hm
   obtain⟨rfl,_⟩:=Prod.mk.inj hx
   obtain⟨f,hf1,hf2⟩:=yqa W a n m 5 hlc Act20.cells (fun i y=>y.Fits) (fun x=>⟨_,rfl⟩) ⟨0,0,0,0,ByteArray.empty⟩ (fun i him=>by
    obtain⟨cs',hc,ht2⟩:=hi i him
    rw[hC]at hc
    obtain⟨_,hcl,hat⟩:=World.cells?_some hc
    obtain⟨y,q1,e⟩:=yl9 hcl ht2 (fun k hk=>hwt k (by
     unfold DataW.weights
     rw[Tryz.underlying22]
     show k∈(_::(DataW.weightsAll Tryz.prog 36 ((List.range n).map D)++DataW.weightsAll Tryz.prog 36 ((List.range (m-n)).map fun j=>D (n+j))))
     refine List.mem_cons_of_mem _ ?_
     by_cases hin:i<n
     · exact List.mem_append_left _ (yee (List.mem_map.2 ⟨i,List.mem_range.2 hin,rfl⟩) k hk)
     · refine List.mem_append_right _ (yee (List.mem_map.2 ⟨i-n,List.mem_range.2 (by omega),?_⟩) k hk)
       rw[Nat.add_sub_cancel' (by omega)]))
    refine⟨y,fun j v hv=>?_,q1⟩
    have hv:cs'[j]? = some v:=by rw[e];exact hv
    rw[hat j (by have:=(List.getElem?_eq_some_iff.1 hv).1;omega),hv])
   have hmax:m≤9223372036854775807:=by have:=hcm;unfold maxLen at this;omega
   refine⟨some a,m,(List.range n).map f,by simp,by simp;exact hlc,fun hne=>?_,fun e=>(by cases e),fun x hx=>?_,by simp;omega⟩
   · have hpos:0<n:=by
      rcases Nat.eq_zero_or_pos n with h0|h0
      · subst h0;simp at hne
      · exact h0
     obtain⟨b,off,e,hb,hr⟩:=hf2 hpos
     refine⟨b,off,by rw[e],hb,fun i hi2=>?_⟩
     have hi3:i<n:=by simpa using hi2
     simp only[List.getElem_map,List.getElem_range]
     exact hr i hi3
   · obtain⟨i,hi1,rfl⟩:=List.mem_map.1 hx
     exact hf1 i (List.mem_range.1 hi1)
end
end
end Go.Proofs.YtalfnadejpmjnaaGreatDoor
