/- A part. -/
import Derived.Test.YtalfnadejpmjnaaGreatDoorNRw
set_option linter.unusedVariables false
set_option linter.unusedSimpArgs false
set_option maxRecDepth 100000
set_option maxHeartbeats 25600000
namespace Go.Proofs.YtalfnadejpmjnaaGreatDoor
open Go.RowKit
theorem tx_by {t:Tx}(ht:t.Ok)(r u:Int)(R:List UInt8)(hR:R.length=32):
 (((t.cells.set 5 (.bool true)).set 6 (.int .i64 r)).set 7 (.int .i64 u)).take 8++((bRow R).toList++(((t.cells.set 5 (.bool true)).set 6 (.int .i64 r)).set 7 (.int .i64 u)).drop (8+(bRow R).toList.length))=Tx.cells { t with lane:=true,round:=r,turn:=u,bY:=R }:=by
 have h1:(bRow R).toList.length=32:=Tx.yap R hR
 have h2:(bRow t.bY).toList.length=32:=Tx.yap t.bY ht.bY
 rw[h1]
 unfold Tx.cells Tx.head
 simp only[List.cons_append,List.set_cons_succ,List.set_cons_zero,List.nil_append,List.take_succ_cons,List.take_zero,List.drop_succ_cons]
 rw[show List.drop 32 ((bRow t.bY).toList++(bRow t.tag).toList)=(bRow t.tag).toList by rw[←h2];exact List.drop_left]
theorem yib:Tx.fits 0:=⟨by decide,by decide⟩
theorem ypp (s:ByteArray)(w:World)(hs:s.size≤140737488351232)(hlen :∀L,Tx.listAll s.data.toList=some L→L.length≠2∧L.length≠3):
 Calls Tryz.prog 45 #[.string s] w fun e w'=>ReadEnds (Tx.read s.data.toList) e∧Below w.heap.size w w':=by
 obtain⟨RR,hRR⟩:=yx (Tx.read s.data.toList)
 rw[hRR]
 have HRR:=yh hRR
 clear hRR
 have hzv :∀W:World,(zeroValue 81).run Tryz.prog W=.ok (.agg Tx.none.cells.toArray) W:=yk2
 have HBt:Hid (Tryz.prog.built 81 []=some Tx.none.cells.toArray):=yh yco
 have HZ72:=yh (Tx.yag Tx.yb1)
 have HZ1:=yh (Tx.yan Tx.yb1)
 obtain⟨ZT,hZe⟩:=yx (Tx.none.cells)
 rw[hZe]at hzv HBt HZ72 HZ1
 have HZe:=yh hZe
 clear hZe
 have LS:=yh (fun W=>ycx s W hs)
 have RL:Hid (∀(X:ByteArray),X.size≤65536→∀W,Calls Tryz.prog 73 #[.string X] W fun e w' =>∃(L:List (List UInt8)) (v:Value) (n:Int),e=.returned (.tuple #[v,.int .i64 n])∧TextsV w' v L∧ListIs X.data.toList L n∧Below W.heap.size W w'):=yh (fun X h W=>ycx X W (by omega))
 have RN:Hid (∀(X:ByteArray),X.size≤65536→∀W:World,Calls Tryz.prog 74 #[.string X] W fun e w' =>∃(y n:Int),e=.returned (.tuple #[.int .i64 y,.int .i64 n])∧NumIs X.data.toList y n∧W=w'):=yh (fun X h W=>yd0 X W (by omega))
 have RH:Hid (∀(X:ByteArray),X.size=32→∀W,Calls Tryz.prog 75 #[.string X] W fun e w'=>e=.returned (.agg (bRow X.data.toList).toList.toArray)∧Below W.heap.size W w'):=yh (fun X h W=>by have:=yg8 X W h;simpa only [Array.toArray_toList] using this)
 have RC:Hid (∀t:Tx,t.Ok→∀W,Calls Tryz.prog 76 #[.agg t.cells.toArray] W fun e w'=>e=.returned (.int .i64 t.err)∧Below W.heap.size W w'):=yh (fun t ht W=>yc1 t ht W)
 have b1:Blocks w (w.alloc (.cells ZT.toArray 81)) [(w.heap.size,81,ZT)]:=(Blocks.nil ((Below.refl w.heap.size w).alloc (Nat.le_refl _) _)).cons (Row.new w _ _)
 have HB1:=yh b1
 clear b1 hs
 go_enter Tryz.func45,Tryz.ntmps45
 go_wp2_with fail
 refine(LS.out _).mono ?_
 rintro _ w2 ⟨L,v,n,rfl,⟨A,c,rfl,hTx⟩,hL,hb2⟩
 have HB2:=yh (HB1.out.step hb2)
 have HTx:=yh hTx
 have HLt:Hid (∀x∈L,x.length≤65536):=yh (by rcases hL with⟨_,h⟩|⟨_,_,h⟩;exact Tx.ybv h;rw[h];simp)
 clear hb2 hTx
 rcases hL with⟨rfl,hLa⟩|⟨hne,hLa,hLn⟩
 rotate_left
 · have hne':=hne
   have HNR:Hid (RR=none):=yh (by rw[←HRR.out];exact Tx.yit hLa)
   clear hLa hLn
   go_wp2_with (first
   | ((with_reducible show wpList _ _ _ (⟨_,.build 81 _,_,_,_,_⟩::_) _ _);refine yak rfl 81 [] rfl (some 20) rfl _ rfl _ HBt.out ?_)
   | (
      with_reducible show wpList _ _ _ (⟨_,.store 81 (.tmp 2) _,_,_,_,_⟩::_) _ _
      refine yab rfl 81 (.tmp 2) (.tmp 20) rfl w.heap.size 0 ZT ZT _ rfl rfl (HB2.out.hd) (by have:=HZ72.out;have:=HZ72.out;omega) (by rw[yam,HZ72.out]) HZ1.out ?_
      intro wf hr hg
      rw[yad (HZ72.out.trans HZ72.out.symm)]at hr
      have HR9:=yh hr
      have HB9:=yh (below_own HB2.out.1 hg (fun k hk=>by cases hk;exact Nat.le_refl _))
      clear hr hg))
   refine bodyPost_ret (yaj rfl _ _ w.heap.size 81 ZT _ rfl HR9.out Tryz.underlying81 rfl (by rw[yam];simp[HZ72.out]) (.int .i64 (n)) rfl) rfl ⟨(by rw[HNR.out];exact⟨n,hne',(by show _=Ending.returned (.tuple #[.agg Tx.none.cells.toArray,.int .i64 (n)]);rw[HZe.out])⟩),HB9.out⟩
 have hq:=hlen L hLa
 have HNR:Hid (RR=none):=yh (by rw[←HRR.out];exact Tx.ysx hLa (by omega))
 clear hLa hlen
 generalize L.length=m at *
 have e2:((m:Int) != 2)=true:=by simp;omega
 have e3:((m:Int) != 3)=true:=by simp;omega
 clear hq
 go_wp2_with (first
 | ((with_reducible show wpList _ _ _ (⟨_,.build 81 _,_,_,_,_⟩::_) _ _);refine yak rfl 81 [] rfl (some 30) rfl _ rfl _ HBt.out ?_)
 | (
    with_reducible show wpList _ _ _ (⟨_,.store 81 (.tmp 2) _,_,_,_,_⟩::_) _ _
    refine yab rfl 81 (.tmp 2) (.tmp 30) rfl w.heap.size 0 ZT ZT _ rfl rfl (HB2.out.hd) (by have:=HZ72.out;have:=HZ72.out;omega) (by rw[yam,HZ72.out]) HZ1.out ?_
    intro wf hr hg
    rw[yad (HZ72.out.trans HZ72.out.symm)]at hr
    have HR9:=yh hr
    have HB9:=yh (below_own HB2.out.1 hg (fun k hk=>by cases hk;exact Nat.le_refl _))
    clear hr hg))
 refine bodyPost_ret (yaj rfl _ _ w.heap.size 81 ZT _ rfl HR9.out Tryz.underlying81 rfl (by rw[yam];simp[HZ72.out]) (.int .i64 (6)) rfl) rfl ⟨(by rw[HNR.out];exact⟨6,by decide,(by show _=Ending.returned (.tuple #[.agg Tx.none.cells.toArray,.int .i64 (6)]);rw[HZe.out])⟩),HB9.out⟩
theorem yjt (s:ByteArray)(w:World)(hs:s.size≤140737488351232)(hlen :∀L,Tx.listAll s.data.toList=some L→L.length=2):
 Calls Tryz.prog 45 #[.string s] w fun e w'=>ReadEnds (Tx.read s.data.toList) e∧Below w.heap.size w w':=by
 obtain⟨RR,hRR⟩:=yx (Tx.read s.data.toList)
 rw[hRR]
 have HRR:=yh hRR
 clear hRR
 have hzv :∀W:World,(zeroValue 81).run Tryz.prog W=.ok (.agg Tx.none.cells.toArray) W:=yk2
 have HBt:Hid (Tryz.prog.built 81 []=some Tx.none.cells.toArray):=yh yco
 have HZ72:=yh (Tx.yag Tx.yb1)
 have HZ1:=yh (Tx.yan Tx.yb1)
 obtain⟨ZT,hZe⟩:=yx (Tx.none.cells)
 rw[hZe]at hzv HBt HZ72 HZ1
 have HZe:=yh hZe
 clear hZe
 have LS:=yh (fun W=>ycx s W hs)
 have RL:Hid (∀(X:ByteArray),X.size≤65536→∀W,Calls Tryz.prog 73 #[.string X] W fun e w' =>∃(L:List (List UInt8)) (v:Value) (n:Int),e=.returned (.tuple #[v,.int .i64 n])∧TextsV w' v L∧ListIs X.data.toList L n∧Below W.heap.size W w'):=yh (fun X h W=>ycx X W (by omega))
 have RN:Hid (∀(X:ByteArray),X.size≤65536→∀W:World,Calls Tryz.prog 74 #[.string X] W fun e w' =>∃(y n:Int),e=.returned (.tuple #[.int .i64 y,.int .i64 n])∧NumIs X.data.toList y n∧W=w'):=yh (fun X h W=>yd0 X W (by omega))
 have RH:Hid (∀(X:ByteArray),X.size=32→∀W,Calls Tryz.prog 75 #[.string X] W fun e w'=>e=.returned (.agg (bRow X.data.toList).toList.toArray)∧Below W.heap.size W w'):=yh (fun X h W=>by have:=yg8 X W h;simpa only [Array.toArray_toList] using this)
 have RC:Hid (∀t:Tx,t.Ok→∀W,Calls Tryz.prog 76 #[.agg t.cells.toArray] W fun e w'=>e=.returned (.int .i64 t.err)∧Below W.heap.size W w'):=yh (fun t ht W=>yc1 t ht W)
 have b1:Blocks w (w.alloc (.cells ZT.toArray 81)) [(w.heap.size,81,ZT)]:=(Blocks.nil ((Below.refl w.heap.size w).alloc (Nat.le_refl _) _)).cons (Row.new w _ _)
 have HB1:=yh b1
 clear b1 hs
 go_enter Tryz.func45,Tryz.ntmps45
 go_wp2_with fail
 refine(LS.out _).mono ?_
 rintro _ w2 ⟨L,v,n,rfl,⟨A,c,rfl,hTx⟩,hL,hb2⟩
 have HB2:=yh (HB1.out.step hb2)
 have HTx:=yh hTx
 have HLt:Hid (∀x∈L,x.length≤65536):=yh (by rcases hL with⟨_,h⟩|⟨_,_,h⟩;exact Tx.ybv h;rw[h];simp)
 clear hb2 hTx
 rcases hL with⟨rfl,hLa⟩|⟨hne,hLa,hLn⟩
 rotate_left
 · have hne':=hne
   have HNR:Hid (RR=none):=yh (by rw[←HRR.out];exact Tx.yit hLa)
   clear hLa hLn
   go_wp2_with (first
   | ((with_reducible show wpList _ _ _ (⟨_,.build 81 _,_,_,_,_⟩::_) _ _);refine yak rfl 81 [] rfl (some 20) rfl _ rfl _ HBt.out ?_)
   | (
      with_reducible show wpList _ _ _ (⟨_,.store 81 (.tmp 2) _,_,_,_,_⟩::_) _ _
      refine yab rfl 81 (.tmp 2) (.tmp 20) rfl w.heap.size 0 ZT ZT _ rfl rfl (HB2.out.hd) (by have:=HZ72.out;have:=HZ72.out;omega) (by rw[yam,HZ72.out]) HZ1.out ?_
      intro wf hr hg
      rw[yad (HZ72.out.trans HZ72.out.symm)]at hr
      have HR9:=yh hr
      have HB9:=yh (below_own HB2.out.1 hg (fun k hk=>by cases hk;exact Nat.le_refl _))
      clear hr hg))
   refine bodyPost_ret (yaj rfl _ _ w.heap.size 81 ZT _ rfl HR9.out Tryz.underlying81 rfl (by rw[yam];simp[HZ72.out]) (.int .i64 (n)) rfl) rfl ⟨(by rw[HNR.out];exact⟨n,hne',(by show _=Ending.returned (.tuple #[.agg Tx.none.cells.toArray,.int .i64 (n)]);rw[HZe.out])⟩),HB9.out⟩
 have hm:=hlen L hLa
 have HLa:=yh hLa
 clear hLa hlen
 rw[hm]
 have hne:L≠[]:=by intro e;rw[e]at hm;simp at hm
 obtain⟨ga,oa,rfl,hga,hca⟩:=HTx.out hne
 clear hne
 have hcx :∀j (h:j<L.length),∃X:ByteArray,X=⟨L[j].toArray⟩∧X.size=L[j].length∧∀W,Below w2.heap.size w2 W→W.cell? ⟨ga,oa+j,none⟩=some (.string X):=fun j h=>⟨_,rfl,by show L[j].toArray.size=_;simp,fun W hW=>(hW.cell (p:=⟨ga,oa+j,none⟩) hga).trans (hca j h)⟩
 have HCx:=yh hcx
 clear hca hcx
 go_wp2_with fail
 go_loopw [6] (fun i wr =>∃(k:Nat),1≤k∧k≤2∧i=.int .i64 k∧w2=wr∧∀j (h:j<L.length),1≤j→j<k→L[j].length=32) (fun i _=>2-(intOf i).toNat)
 case atStart=>exact⟨1,Nat.le_refl _,by decide,rfl,rfl,fun j _ h1 h2=>by omega⟩
 case round=>
  obtain⟨k,hk1,hkm,rfl,rfl,hall⟩:=hrel
  have HAll:=yh hall
  clear hall
  by_cases hk:k<2
  · have hki:(k:Int)<2:=by omega
    have hk0:(0:Int)≤(k:Int):=by omega
    obtain⟨X,hX,hXs,hXc⟩:=HCx.out k (by omega)
    have c0:=hXc _ (Below.refl _ _)
    clear hX hXc
    by_cases hq:X.size=32
    · have hz:(X.size:Int)=32:=by omega
      have HQ:Hid (L[k].length=32):=yh (by omega)
      clear hq hXs
      go_wp2_with fail
      exact⟨⟨k+1,by omega,by omega,by go_num,by first|rfl|trivial,fun j hj h1 h2=>by
       rcases Nat.lt_or_ge j k with h3|h3
       · exact HAll.out j hj h1 h3
       · have:j=k:=by omega
         subst this;exact HQ.out⟩,by simp[intOf];omega⟩
    · have hz:((X.size:Int) != 32)=true:=by simp;omega
      have HNR:Hid (RR=none):=yh (by rw[←HRR.out];exact Tx.ymn HLa.out hk1 (by omega) (fun e=>hq (by rw[hXs];exact e)))
      clear hq hXs
      go_wp2_with (first
      | ((with_reducible show wpList _ _ _ (⟨_,.build 81 _,_,_,_,_⟩::_) _ _);refine yak rfl 81 [] rfl (some 43) rfl _ rfl _ HBt.out ?_)
      | (
         with_reducible show wpList _ _ _ (⟨_,.store 81 (.tmp 2) _,_,_,_,_⟩::_) _ _
         refine yab rfl 81 (.tmp 2) (.tmp 43) rfl w.heap.size 0 ZT ZT _ rfl rfl (HB2.out.hd) (by have:=HZ72.out;have:=HZ72.out;omega) (by rw[yam,HZ72.out]) HZ1.out ?_
         intro wf hr hg
         rw[yad (HZ72.out.trans HZ72.out.symm)]at hr
         have HR9:=yh hr
         have HB9:=yh (below_own HB2.out.1 hg (fun k hk=>by cases hk;exact Nat.le_refl _))
         clear hr hg))
      refine bodyPost_ret (yaj rfl _ _ w.heap.size 81 ZT _ rfl HR9.out Tryz.underlying81 rfl (by rw[yam];simp[HZ72.out]) (.int .i64 (6)) rfl) rfl ⟨(by rw[HNR.out];exact⟨6,by decide,(by show _=Ending.returned (.tuple #[.agg Tx.none.cells.toArray,.int .i64 (6)]);rw[HZe.out])⟩),HB9.out⟩
  · obtain rfl:k=2:=by omega
    have hl0 :∀j (h:j<L.length),1≤j→L[j].length=32:=fun j h h1=>HAll.out j h h1 (by omega)
    generalize w2=wo at *
    obtain⟨X0,hX0,hs0,hc0⟩:=HCx.out 0 (by omega)
    obtain⟨X1,hX1,hs1,hc1⟩:=HCx.out 1 (by omega)
    have HLtA:=yh hga
    have hb0:X0.size≤65536:=by rw[hs0];exact HLt.out _ (List.getElem_mem _)
    have ht1:X1.size=32:=by rw[hs1];exact hl0 1 (by omega) (by omega)
    have e0:X0.data.toList=L[0]'(by omega):=(congrArg (fun x:ByteArray=>x.data.toList) hX0).trans (yeh _)
    have e1:X1.data.toList=L[1]'(by omega):=(congrArg (fun x:ByteArray=>x.data.toList) hX1).trans (yeh _)
    have HR1:Hid (RR=Tx.readOf X0.data.toList (some { Tx.none with tag:=X1.data.toList })):=yh (by rw[←HRR.out];exact Tx.ysw (by rw[HLa.out,e0,e1];exact congrArg some (ys7 hm)) ht1)
    clear e0 e1
    have HX0:=yh hc0
    have HX1:=yh hc1
    have c0:wo.cell? ⟨ga,oa,none⟩=some (.string X0):=hc0 _ (Below.refl _ _)
    clear hX0 hX1 hs0 hs1 hc0 hc1 hl0
    go_wp2_with fail
    refine(RL.out X0 hb0 _).mono ?_
    rintro _ w3 ⟨K,v3,n3,rfl,⟨A3,c3,rfl,hT3⟩,hL3,hb3⟩
    have HB3:=yh (HB2.out.step hb3)
    have HX13:=yh (fun W (hW:Below w3.heap.size w3 W)=>HX1.out W (yaa hb3 hW))
    have HT3:=yh hT3
    have HL3:Hid (∀x∈K,x.length≤65536):=yh (by rcases hL3 with⟨_,h⟩|⟨_,_,h⟩;exact Tx.ybv h;rw[h];simp)
    have HLtA:=yh (Nat.lt_of_lt_of_le HLtA.out hb3.size)
    clear hb3 hT3 c0 HX1
    rcases hL3 with⟨rfl,hLa3⟩|⟨hne3,hLa3,hLn3⟩
    rotate_left
    · have hne3':=hne3
      have HNR:Hid (RR=none):=yh (by rw[HR1.out];exact Tx.yhy hLa3)
      clear hLa3 hLn3
      go_wp2_with (first
      | ((with_reducible show wpList _ _ _ (⟨_,.build 81 _,_,_,_,_⟩::_) _ _);refine yak rfl 81 [] rfl (some 53) rfl _ rfl _ HBt.out ?_)
      | (
         with_reducible show wpList _ _ _ (⟨_,.store 81 (.tmp 2) _,_,_,_,_⟩::_) _ _
         refine yab rfl 81 (.tmp 2) (.tmp 53) rfl w.heap.size 0 ZT ZT _ rfl rfl (HB3.out.hd) (by have:=HZ72.out;have:=HZ72.out;omega) (by rw[yam,HZ72.out]) HZ1.out ?_
         intro wf hr hg
         rw[yad (HZ72.out.trans HZ72.out.symm)]at hr
         have HR9:=yh hr
         have HB9:=yh (below_own HB3.out.1 hg (fun k hk=>by cases hk;exact Nat.le_refl _))
         clear hr hg))
      refine bodyPost_ret (yaj rfl _ _ w.heap.size 81 ZT _ rfl HR9.out Tryz.underlying81 rfl (by rw[yam];simp[HZ72.out]) (.int .i64 (n3)) rfl) rfl ⟨(by rw[HNR.out];exact⟨n3,hne3',(by show _=Ending.returned (.tuple #[.agg Tx.none.cells.toArray,.int .i64 (n3)]);rw[HZe.out])⟩),HB9.out⟩
    have HLa3:=yh hLa3
    clear hLa3
    obtain⟨q,hq⟩ :∃q,q=K.length:=⟨_,rfl⟩
    rw[←hq]
    have Hq:=yh hq
    clear hq
    by_cases hqb:q=5
    rotate_left
    · have e1:((q:Int) != 5)=true:=by simp;omega
      have HNR:Hid (RR=none):=yh (by rw[HR1.out];exact Tx.yhx HLa3.out (by show K.length≠5;have:=Hq.out;omega))
      clear hqb
      go_wp2_with (first
      | ((with_reducible show wpList _ _ _ (⟨_,.build 81 _,_,_,_,_⟩::_) _ _);refine yak rfl 81 [] rfl (some 73) rfl _ rfl _ HBt.out ?_)
      | (
         with_reducible show wpList _ _ _ (⟨_,.store 81 (.tmp 2) _,_,_,_,_⟩::_) _ _
         refine yab rfl 81 (.tmp 2) (.tmp 73) rfl w.heap.size 0 ZT ZT _ rfl rfl (HB3.out.hd) (by have:=HZ72.out;have:=HZ72.out;omega) (by rw[yam,HZ72.out]) HZ1.out ?_
         intro wf hr hg
         rw[yad (HZ72.out.trans HZ72.out.symm)]at hr
         have HR9:=yh hr
         have HB9:=yh (below_own HB3.out.1 hg (fun k hk=>by cases hk;exact Nat.le_refl _))
         clear hr hg))
      refine bodyPost_ret (yaj rfl _ _ w.heap.size 81 ZT _ rfl HR9.out Tryz.underlying81 rfl (by rw[yam];simp[HZ72.out]) (.int .i64 (6)) rfl) rfl ⟨(by rw[HNR.out];exact⟨6,by decide,(by show _=Ending.returned (.tuple #[.agg Tx.none.cells.toArray,.int .i64 (6)]);rw[HZe.out])⟩),HB9.out⟩
    subst hqb
    obtain⟨gb,ob,rfl,hgb,hcb⟩:=HT3.out (by intro e;have:=Hq.out;rw[e]at this;simp at this)
    have hck :∀j (h:j<K.length),∃X:ByteArray,X.size≤65536∧X.data.toList=K[j]∧∀W,Below w3.heap.size w3 W→W.cell? ⟨gb,ob+j,none⟩=some (.string X):=fun j h=>⟨⟨K[j].toArray⟩,by have:=HL3.out _ (List.getElem_mem h);show K[j].toArray.size≤_;simpa using this,yeh _,fun W hW=>(hW.cell (p:=⟨gb,ob+j,none⟩) hgb).trans (hcb j h)⟩
    have HCk:=yh hck
    clear hcb hck hgb
    obtain⟨i0,hi,hz,hs,hby⟩:=int5
    have Hi:=yh hi
    have Hz:=yh hz
    have Hs:=yh hs
    have Hby:=yh hby
    clear hi hz hs hby
    go_wp2_with fail
    go_loopw [8,9] (fun v i wr =>∃(k:Nat) (ns:List Int),k≤5∧i=.int .i64 k∧ns.length=k∧(∀x∈ns,Tx.fits x)∧wr.ownsRow w3.heap.size 3 1 v k (Is ns)∧Below w3.heap.size w3 wr∧∀j (h:j<K.length),j<k→j≠4→Tx.numAll K[j]=some (ns.getD j 0)) (fun _ i _=>5-(intOf i).toNat)
    case atStart=>exact⟨0,[],Nat.zero_le _,rfl,rfl,by simp,⟨rfl,.inl ⟨rfl,rfl⟩⟩,Below.refl _ _,fun j h h1=>by omega⟩
    case round=>
     obtain⟨k,ns,hkb,rfl,hnl,hnf,hown,hbr,hnum⟩:=hrel
     have HNum:=yh hnum
     clear hnum
     have Hown:=yh hown
     have Hbr:=yh hbr
     have Hnl:=yh hnl
     have Hnf:=yh hnf
     clear hown hbr hnl hnf
     by_cases hk:k<5
     · have hki:(k:Int)<5:=by omega
       have hk0:(0:Int)≤(k:Int):=by omega
       have hk63:k+1≤maxLen:=by unfold maxLen;omega
       have hk48:((k+1)+(k+1) / 4+192)*8≤281474976710656:=by omega
       by_cases h4:k=4
       · have d4:((k:Int) == 4)=true:=by simp;omega
         have HNumN:Hid (∀j (h:j<K.length),j<k+1→j≠4→Tx.numAll K[j]=some ((ns ++ [(0:Int)]).getD j 0)):=yh (fun j hj h1 h2=>by
          rw[HNum.out j hj (by omega) h2,List.getD_eq_getElem?_getD,List.getD_eq_getElem?_getD,List.getElem?_append_left (by have:=Hnl.out;omega)])
         clear h4
         have hone:=yiy wr 3 0
         have hown2:=Hown.out.alloc (.cells #[.int .i64 0] 3)
         have hb2:Below w3.heap.size w3 (wr.alloc (.cells #[.int .i64 0] 3)):=Hbr.out.alloc Hbr.out.size _
         have hsz2:w3.heap.size≤(wr.alloc (.cells #[.int .i64 0] 3)).heap.size:=hb2.size
         have Hone:=yh hone
         have Hown2:=yh hown2
         have Hb2:=yh hb2
         clear hone hown2 hb2
         go_wp2_with (at_builtin; refine wpList_append_own_wide _ rfl (.tmp 82) (.tmp 83) 45 rfl w3.heap.size 3 i0 (.int .i64 0) 1 8 Tryz.underlying45 Hi.out Hz.out Hs.out Hby.out rfl (by decide) _ _ _ rfl Hown2.out ⟨wr.heap.size, 0, none⟩ 1 1 [.int .i64 0] rfl rfl Hone.out (yfy _) hk63 hk48 hsz2 ?_
                      intro v' w5 hown3 hgrow3 _
                      obtain⟨g,cp,rfl⟩:=ownsRow_succ hown3
                      have Hb3:=yh (yd5 Hb2.out hsz2 Hown2.out hgrow3)
                      have Hown3:=yh hown3
                      clear hown3 hgrow3)
         exact⟨⟨k+1,ns ++ [0],by omega,by go_num,by simp[Hnl.out],fun x hx=>by
          rcases List.mem_append.1 hx with hx|hx
          · exact Hnf.out x hx
          · rw[List.mem_singleton.1 hx];exact yib,by rw[show Is (ns ++ [0])=Is ns ++ [.int .i64 0] by simp[Is]];exact Hown3.out,Hb3.out,HNumN.out⟩,by simp[intOf];omega⟩
       · have d4:((k:Int) == 4)=false:=by simp;omega
         obtain⟨X,hXs,hXe,hXc⟩:=HCk.out k (by have:=Hq.out;omega)
         have H4:Hid (k≠4):=yh h4
         have HXe:=yh hXe
         clear hXe
         have c0:=hXc _ Hbr.out
         clear h4 hXc
         go_wp2_with fail
         refine(RN.out X hXs _).mono ?_
         rintro _ w4 ⟨y,en,rfl,hI,rfl⟩
         have HBr:=yh (HB3.out.step Hbr.out)
         rcases hI with⟨rfl,hy⟩|⟨hen,hy⟩
         · have hyf:=Tx.yct hy
           have Hyf:=yh hyf
           have HNumN:Hid (∀j (h:j<K.length),j<k+1→j≠4→Tx.numAll K[j]=some ((ns ++ [y]).getD j 0)):=yh (fun j hj h1 h2=>by
            rcases Nat.lt_or_ge j k with h3|h3
            · rw[HNum.out j hj h3 h2,List.getD_eq_getElem?_getD,List.getD_eq_getElem?_getD,List.getElem?_append_left (by have:=Hnl.out;omega)]
            · have e:j=k:=by omega
              subst e
              have hl:=Hnl.out
              rw[←HXe.out,hy,List.getD_eq_getElem?_getD,List.getElem?_append_right (by omega),hl,Nat.sub_self]
              rfl)
           clear hy hyf c0
           have hone:=yiy wr 3 y
           have hown2:=Hown.out.alloc (.cells #[.int .i64 y] 3)
           have hb2:Below w3.heap.size w3 (wr.alloc (.cells #[.int .i64 y] 3)):=Hbr.out.alloc Hbr.out.size _
           have hsz2:w3.heap.size≤(wr.alloc (.cells #[.int .i64 y] 3)).heap.size:=hb2.size
           have Hone:=yh hone
           have Hown2:=yh hown2
           have Hb2:=yh hb2
           clear hone hown2 hb2
           go_wp2_with (at_builtin; refine wpList_append_own_wide _ rfl (.tmp 97) (.tmp 99) 45 rfl w3.heap.size 3 i0 (.int .i64 0) 1 8 Tryz.underlying45 Hi.out Hz.out Hs.out Hby.out rfl (by decide) _ _ _ rfl Hown2.out ⟨wr.heap.size, 0, none⟩ 1 1 [.int .i64 y] rfl rfl Hone.out (yfy _) hk63 hk48 hsz2 ?_
                        intro v' w5 hown3 hgrow3 _
                        obtain⟨g,cp,rfl⟩:=ownsRow_succ hown3
                        have Hb3:=yh (yd5 Hb2.out hsz2 Hown2.out hgrow3)
                        have Hown3:=yh hown3
                        clear hown3 hgrow3)
           exact⟨⟨k+1,ns ++ [y],by omega,by go_num,by simp[Hnl.out],fun x hx=>by
            rcases List.mem_append.1 hx with hx|hx
            · exact Hnf.out x hx
            · rw[List.mem_singleton.1 hx];exact Hyf.out,by rw[show Is (ns ++ [y])=Is ns ++ [.int .i64 y] by simp[Is]];exact Hown3.out,Hb3.out,HNumN.out⟩,by simp[intOf];omega⟩
         · have hen':=hen
           have HNR:Hid (RR=none):=yh (by rw[HR1.out];exact Tx.yhw HLa3.out (by have:=Hq.out;omega) H4.out (by rw[←HXe.out];exact hy))
           clear hy c0
           go_wp2_with (first
           | ((with_reducible show wpList _ _ _ (⟨_,.build 81 _,_,_,_,_⟩::_) _ _);refine yak rfl 81 [] rfl (some 95) rfl _ rfl _ HBt.out ?_)
           | (
              with_reducible show wpList _ _ _ (⟨_,.store 81 (.tmp 2) _,_,_,_,_⟩::_) _ _
              refine yab rfl 81 (.tmp 2) (.tmp 95) rfl w.heap.size 0 ZT ZT _ rfl rfl (HBr.out.hd) (by have:=HZ72.out;have:=HZ72.out;omega) (by rw[yam,HZ72.out]) HZ1.out ?_
              intro wf hr hg
              rw[yad (HZ72.out.trans HZ72.out.symm)]at hr
              have HR9:=yh hr
              have HB9:=yh (below_own HBr.out.1 hg (fun k hk=>by cases hk;exact Nat.le_refl _))
              clear hr hg))
           refine bodyPost_ret (yaj rfl _ _ w.heap.size 81 ZT _ rfl HR9.out Tryz.underlying81 rfl (by rw[yam];simp[HZ72.out]) (.int .i64 (en)) rfl) rfl ⟨(by rw[HNR.out];exact⟨en,hen',(by show _=Ending.returned (.tuple #[.agg Tx.none.cells.toArray,.int .i64 (en)]);rw[HZe.out])⟩),HB9.out⟩
     · obtain rfl:k=5:=by omega
       have HBr:=yh (HB3.out.step Hbr.out)
       obtain⟨ns0,hns⟩ :∃ns0,ns0=ns:=⟨_,rfl⟩
       obtain⟨n0,n1,n2,n3,n4,he⟩:=Tx.yrd Hnl.out
       have hfit:Tx.fits n0∧Tx.fits n1∧Tx.fits n2∧Tx.fits n3∧Tx.fits n4:=by
        have:=Hnf.out
        rw[he]at this
        simp only[List.mem_cons,List.not_mem_nil,or_false]at this
        exact⟨this _ (by simp),this _ (by simp),this _ (by simp),this _ (by simp),this _ (by simp)⟩
       obtain⟨g8,cp,rfl⟩:=ownsRow_succ Hown.out
       rw[he]at hns
       have HI:Hid (∀W,Below wr.heap.size wr W→W.cell? ⟨g8,0,none⟩=some (.int .i64 n0)∧W.cell? ⟨g8,1,none⟩=some (.int .i64 n1)∧W.cell? ⟨g8,2,none⟩=some (.int .i64 n2)∧W.cell? ⟨g8,3,none⟩=some (.int .i64 n3)):=yh (fun W hW=>by
        have hlt:=(Hown.out.lt g8 rfl).2
        have hc:=Hown.out.cells (g:=g8) rfl
        have hadd :∀k i,(⟨g8,k,none⟩:Addr).add i=⟨g8,k+i,none⟩:=fun k i=>by unfold Addr.add;split <;> simp_all
        have f :∀(j:Nat) (u:Value),(Is ns0)[j]? = some u→W.cell? ⟨g8,j,none⟩=some u:=fun j u hu=>(hW.cell (p:=⟨g8,j,none⟩) hlt).trans (by have:=hc j u (by rw[he,←hns];exact hu);rwa[hadd,Nat.zero_add]at this)
        exact⟨f 0 _ (by rw[hns];rfl),f 1 _ (by rw[hns];rfl),f 2 _ (by rw[hns];rfl),f 3 _ (by rw[hns];rfl)⟩)
       obtain⟨Y4,hY4s,hY4e,hY4⟩:=HCk.out 4 (by have:=Hq.out;omega)
       have HY:=yh (fun W (hW:Below wr.heap.size wr W)=>hY4 W (yaa Hbr.out hW))
       have HX1:=yh (fun W (hW:Below wr.heap.size wr W)=>HX13.out W (yaa Hbr.out hW))
       have hl1:X1.data.toList.length=32:=ht1
       have hbuilt:=ytw n0 n1 n2 n3 Y4 X1.data.toList hl1
       have hT0:Tx.Ok ⟨n0,n1,n2,n3,Y4,false,0,0,Tx.zero,X1.data.toList⟩:=⟨rfl,hl1,Nat.le_trans hY4s (by decide),hfit.1,hfit.2.1,hfit.2.2.1,hfit.2.2.2.1,yib,yib⟩
       have RH1:=yh (RH.out X1 ht1)
       have HT072:=yh (Tx.yag hT0)
       have HT01:=yh (Tx.yan hT0)
       obtain⟨T0,hT0e⟩ :∃T0:Tx,T0=⟨n0,n1,n2,n3,Y4,false,0,0,Tx.zero,X1.data.toList⟩:=⟨_,rfl⟩
       rw[←hT0e]at hbuilt HT072 HT01 hT0
       generalize hH1:(bRow X1.data.toList).toList=H1 at *
       clear hH1
       have HBd:=yh hbuilt
       have HT0:=yh hT0
       have HT0e:=yh hT0e
       have HYES:Hid (RR=if T0.err=0 then some T0 else none):=yh (by
        have hq5:K.length=5:=Hq.out.symm
        have f:=fun (j:Nat) (h:j<K.length) (h5:j<5) (h4:j≠4)=>HNum.out j h h5 h4
        rw[he]at f
        rw[HR1.out,Tx.ylg HLa3.out hq5 (f 0 (by omega) (by omega) (by omega)) (f 1 (by omega) (by omega) (by omega)) (f 2 (by omega) (by omega) (by omega)) (f 3 (by omega) (by omega) (by omega)),yqn hY4e]
        rw[HT0e.out]
        rfl)
       clear hbuilt hT0 hT0e hl1 hY4 hY4s hY4e
       go_wp2_with fail
       refine wp_region_noPanic ?_
       refine wp_region_held_drew (S:=fun w'=>Below wr.heap.size wr w') (by kernel_rfl) ((Below.refl _ _).drew) (fun gH=>?_)
       generalize wr.drew=wq at *
       refine yg 0 (.slice (some ⟨g8,0,none⟩) 5 cp) rfl gH ?_
       refine yg 1 (.pointer (some ⟨g8,0,none⟩)) rfl gH ?_
       refine yk 2 (.int .i64 n0) rfl (fun w' hSw=>by have hq:=hSw;have hd:=(HI.out _ hq).1;go_simp) gH ?_
       simp only[Act.put,Ya,Yb,Yc,Yd,Ye,Yf]
       refine yg 3 (.slice (some ⟨g8,0,none⟩) 5 cp) rfl gH ?_
       refine yg 4 (.pointer (some ⟨g8,1,none⟩)) rfl gH ?_
       refine yk 5 (.int .i64 n1) rfl (fun w' hSw=>by have hq:=hSw;have hd:=(HI.out _ hq).2.1;go_simp) gH ?_
       simp only[Act.put,Ya,Yb,Yc,Yd,Ye,Yf]
       refine yg 6 (.slice (some ⟨g8,0,none⟩) 5 cp) rfl gH ?_
       refine yg 7 (.pointer (some ⟨g8,2,none⟩)) rfl gH ?_
       refine yk 8 (.int .i64 n2) rfl (fun w' hSw=>by have hq:=hSw;have hd:=(HI.out _ hq).2.2.1;go_simp) gH ?_
       simp only[Act.put,Ya,Yb,Yc,Yd,Ye,Yf]
       refine yg 9 (.slice (some ⟨g8,0,none⟩) 5 cp) rfl gH ?_
       refine yg 10 (.pointer (some ⟨g8,3,none⟩)) rfl gH ?_
       refine yk 11 (.int .i64 n3) rfl (fun w' hSw=>by have hq:=hSw;have hd:=(HI.out _ hq).2.2.2;go_simp) gH ?_
       simp only[Act.put,Ya,Yb,Yc,Yd,Ye,Yf]
       refine yg 12 (.slice (some ⟨gb,ob,none⟩) 5 c3) rfl gH ?_
       refine yg 13 (.pointer (some ⟨gb,(ob+4),none⟩)) rfl gH ?_
       refine yk 14 (.string Y4) rfl (fun w' hSw=>by have hq:=hSw;have hd:=HY.out _ hq;go_simp) gH ?_
       simp only[Act.put,Ya,Yb,Yc,Yd,Ye,Yf]
       refine yg 15 (.slice (some ⟨ga,oa,none⟩) 2 c) rfl gH ?_
       refine yg 16 (.pointer (some ⟨ga,(oa+1),none⟩)) rfl gH ?_
       refine yk 17 (.string X1) rfl (fun w' hSw=>by have hq:=hSw;have hd:=HX1.out _ hq;go_simp) gH ?_
       simp only[Act.put,Ya,Yb,Yc,Yd,Ye,Yf]
       refine yS 18 20 (by kernel_rfl) rfl rfl (fun K1 hK1=>?_) (fun K1 hK1=>?_)
       · skip
         try simp only[Act.put,Ya,Yb,Yc,Yd,Ye,Yf]
         go_simp
         refine Calls.mono (RH1.out _) ?_
         rintro e wc1 ⟨rfl,hc2⟩
         refine hK1.out _ _ (yaa gH hc2) (fun gH=>?_)
         clear hK1 K1
         refine' yl 19 (.agg T0.cells.toArray) rfl (ybg (by rfl) 81 [(0,.tmp 103),(1,.tmp 106),(2,.tmp 109),(3,.tmp 112),(4,.tmp 115),(9,.tmp 119)] rfl [(0,.int .i64 n0),(1,.int .i64 n1),(2,.int .i64 n2),(3,.int .i64 n3),(4,.string Y4),(9,.agg H1.toArray)] rfl T0.cells.toArray HBd.out) gH ?_
         refine yR 20 (by kernel_rfl) rfl (fun K1 hK1=>?_)
         try simp only[Act.put,Ya,Yb,Yc,Yd,Ye,Yf]
         go_simp
         have hd4:=(Below.refl wc1.heap.size wc1).alloc (Nat.le_refl _) (.cells ZT.toArray 81)
         have rA:Row (wc1.alloc (.cells ZT.toArray 81)) wc1.heap.size 81 ZT:=Row.new wc1 81 ZT
         have rAs:wr.heap.size≤wc1.heap.size:=gH.size
         have eH:=yaa gH hd4
         generalize wc1.alloc (.cells ZT.toArray 81)=wa3 at *
         obtain⟨ga5,ga5e⟩ :∃ga5,ga5=wc1.heap.size:=⟨_,rfl⟩
         rw[←ga5e]at rA rAs ⊢
         refine hK1.out _ _ eH (fun gH=>?_)
         clear hK1 K1
         clear eH ga5e
         refine yR 21 (by kernel_rfl) rfl (fun K1 hK1=>?_)
         try simp only[Act.put,Ya,Yb,Yc,Yd,Ye,Yf]
         rw[if_pos (by rfl)]
         refine yar 81 (.tmp 12) (.tmp 120) rfl ga5 0 T0.cells _ _ rfl rfl rA (by have:=HZ72.out;have:=HT072.out;omega) (by rw[yam,HT072.out]) HT01.out ?_
         intro ws6 hrS hgS
         rw[yad (HT072.out.trans HZ72.out.symm)]at hrS
         have HR12:=yh hrS
         have eH:=below_own gH hgS (fun k hk=>by cases hk;exact rAs)
         clear hrS hgS
         refine hK1.out _ _ eH (fun gH=>?_)
         clear hK1 K1
         clear eH
         refine wpAnyH_done (by kernel_rfl) ?_ _
         refine NoPanic.normal ?_
         have HB12:=yh (HBr.out.step gH)
         have Hgs:Hid (wr.heap.size≤ga5):=yh rAs
         have HBw:=yh gH
         clear gH
         generalize ga5=g12 at *
         go_wp2_with ((with_reducible show wpList _ _ _ (⟨_,.load 81 (.tmp 12),_,_,_,_⟩::_) _ _);refine yac rfl 81 (.tmp 12) rfl g12 0 rfl T0.cells _ (yah (HR12.out)) Tryz.underlying81 rfl (by rw[yam,HT072.out]) ?_)
         refine(RC.out T0 HT0.out _).mono ?_
         rintro _ w14 ⟨rfl,hb14⟩
         have HB14:=yh (HB12.out.step hb14)
         have HR14:=yh (HR12.out.below hb14)
         clear hb14
         by_cases he:T0.err=0
         · rw[he]
           have hne2:g12≠w.heap.size:=by have:=Hgs.out;have:=HBr.out.hd.lt;omega
           go_wp2_with (first
            | ((with_reducible show wpList _ _ _ (⟨_,.load 81 (.tmp 12),_,_,_,_⟩::_) _ _);refine yac rfl 81 (.tmp 12) rfl g12 0 rfl T0.cells _ (yah (HR14.out)) Tryz.underlying81 rfl (by rw[yam,HT072.out]) ?_)
            | (
               with_reducible show wpList _ _ _ (⟨_,.store 81 (.tmp 2) _,_,_,_,_⟩::_) _ _
               refine yab rfl 81 (.tmp 2) (.tmp 144) rfl w.heap.size 0 T0.cells ZT _ rfl rfl (HB14.out.hd) (by have:=HZ72.out;have:=HT072.out;omega) (by rw[yam,HT072.out]) HT01.out ?_
               intro wf hr hg
               rw[yad (HT072.out.trans HZ72.out.symm)]at hr
               have HR9:=yh hr
               have HB9:=yh (below_own HB14.out.1 hg (fun k hk=>by cases hk;exact Nat.le_refl _))
               clear hr hg))
           refine bodyPost_ret (yaj rfl _ _ w.heap.size 81 T0.cells _ rfl HR9.out Tryz.underlying81 rfl (by rw[yam];simp[HT072.out]) (.int .i64 0) rfl) rfl ⟨(by rw[show RR=some T0 from HYES.out.trans (if_pos he)];rfl),HB9.out⟩
         · have heb:(T0.err != 0)=true:=by simpa using he
           have HNR:Hid (RR=none):=yh (HYES.out.trans (if_neg he))
           go_wp2_with (first
           | ((with_reducible show wpList _ _ _ (⟨_,.build 81 _,_,_,_,_⟩::_) _ _);refine yak rfl 81 [] rfl (some 142) rfl _ rfl _ HBt.out ?_)
           | (
              with_reducible show wpList _ _ _ (⟨_,.store 81 (.tmp 2) _,_,_,_,_⟩::_) _ _
              refine yab rfl 81 (.tmp 2) (.tmp 142) rfl w.heap.size 0 ZT ZT _ rfl rfl (HB14.out.hd) (by have:=HZ72.out;have:=HZ72.out;omega) (by rw[yam,HZ72.out]) HZ1.out ?_
              intro wf hr hg
              rw[yad (HZ72.out.trans HZ72.out.symm)]at hr
              have HR9:=yh hr
              have HB9:=yh (below_own HB14.out.1 hg (fun k hk=>by cases hk;exact Nat.le_refl _))
              clear hr hg))
           refine bodyPost_ret (yaj rfl _ _ w.heap.size 81 ZT _ rfl HR9.out Tryz.underlying81 rfl (by rw[yam];simp[HZ72.out]) (.int .i64 (T0.err)) rfl) rfl ⟨(by rw[HNR.out];exact⟨T0.err,heb,(by show _=Ending.returned (.tuple #[.agg Tx.none.cells.toArray,.int .i64 (T0.err)]);rw[HZe.out])⟩),HB9.out⟩
       · skip
         try simp only[Act.put,Ya,Yb,Yc,Yd,Ye,Yf]
         go_simp
         have hd8:=(Below.refl wq.heap.size wq).alloc (Nat.le_refl _) (.cells ZT.toArray 81)
         have rA:Row (wq.alloc (.cells ZT.toArray 81)) wq.heap.size 81 ZT:=Row.new wq 81 ZT
         have rAs:wr.heap.size≤wq.heap.size:=gH.size
         have eH:=yaa gH hd8
         generalize wq.alloc (.cells ZT.toArray 81)=wa7 at *
         obtain⟨ga9,ga9e⟩ :∃ga9,ga9=wq.heap.size:=⟨_,rfl⟩
         rw[←ga9e]at rA rAs ⊢
         refine hK1.out _ _ eH (fun gH=>?_)
         clear hK1 K1
         clear eH ga9e
         refine yR 18 (by kernel_rfl) rfl (fun K1 hK1=>?_)
         try simp only[Act.put,Ya,Yb,Yc,Yd,Ye,Yf]
         go_simp
         refine Calls.mono (RH1.out _) ?_
         rintro e wc10 ⟨rfl,hc11⟩
         have rA:=rA.kept (yae hc11 none) (by simp)
         refine hK1.out _ _ (yaa gH hc11) (fun gH=>?_)
         clear hK1 K1
         refine' yl 19 (.agg T0.cells.toArray) rfl (ybg (by rfl) 81 [(0,.tmp 103),(1,.tmp 106),(2,.tmp 109),(3,.tmp 112),(4,.tmp 115),(9,.tmp 119)] rfl [(0,.int .i64 n0),(1,.int .i64 n1),(2,.int .i64 n2),(3,.int .i64 n3),(4,.string Y4),(9,.agg H1.toArray)] rfl T0.cells.toArray HBd.out) gH ?_
         refine yR 21 (by kernel_rfl) rfl (fun K1 hK1=>?_)
         try simp only[Act.put,Ya,Yb,Yc,Yd,Ye,Yf]
         rw[if_pos (by rfl)]
         refine yar 81 (.tmp 12) (.tmp 120) rfl ga9 0 T0.cells _ _ rfl rfl rA (by have:=HZ72.out;have:=HT072.out;omega) (by rw[yam,HT072.out]) HT01.out ?_
         intro ws12 hrS hgS
         rw[yad (HT072.out.trans HZ72.out.symm)]at hrS
         have HR12:=yh hrS
         have eH:=below_own gH hgS (fun k hk=>by cases hk;exact rAs)
         clear hrS hgS
         refine hK1.out _ _ eH (fun gH=>?_)
         clear hK1 K1
         clear eH
         refine wpAnyH_done (by kernel_rfl) ?_ _
         refine NoPanic.normal ?_
         have HB12:=yh (HBr.out.step gH)
         have Hgs:Hid (wr.heap.size≤ga9):=yh rAs
         have HBw:=yh gH
         clear gH
         generalize ga9=g12 at *
         go_wp2_with ((with_reducible show wpList _ _ _ (⟨_,.load 81 (.tmp 12),_,_,_,_⟩::_) _ _);refine yac rfl 81 (.tmp 12) rfl g12 0 rfl T0.cells _ (yah (HR12.out)) Tryz.underlying81 rfl (by rw[yam,HT072.out]) ?_)
         refine(RC.out T0 HT0.out _).mono ?_
         rintro _ w14 ⟨rfl,hb14⟩
         have HB14:=yh (HB12.out.step hb14)
         have HR14:=yh (HR12.out.below hb14)
         clear hb14
         by_cases he:T0.err=0
         · rw[he]
           have hne2:g12≠w.heap.size:=by have:=Hgs.out;have:=HBr.out.hd.lt;omega
           go_wp2_with (first
            | ((with_reducible show wpList _ _ _ (⟨_,.load 81 (.tmp 12),_,_,_,_⟩::_) _ _);refine yac rfl 81 (.tmp 12) rfl g12 0 rfl T0.cells _ (yah (HR14.out)) Tryz.underlying81 rfl (by rw[yam,HT072.out]) ?_)
            | (
               with_reducible show wpList _ _ _ (⟨_,.store 81 (.tmp 2) _,_,_,_,_⟩::_) _ _
               refine yab rfl 81 (.tmp 2) (.tmp 144) rfl w.heap.size 0 T0.cells ZT _ rfl rfl (HB14.out.hd) (by have:=HZ72.out;have:=HT072.out;omega) (by rw[yam,HT072.out]) HT01.out ?_
               intro wf hr hg
               rw[yad (HT072.out.trans HZ72.out.symm)]at hr
               have HR9:=yh hr
               have HB9:=yh (below_own HB14.out.1 hg (fun k hk=>by cases hk;exact Nat.le_refl _))
               clear hr hg))
           refine bodyPost_ret (yaj rfl _ _ w.heap.size 81 T0.cells _ rfl HR9.out Tryz.underlying81 rfl (by rw[yam];simp[HT072.out]) (.int .i64 0) rfl) rfl ⟨(by rw[show RR=some T0 from HYES.out.trans (if_pos he)];rfl),HB9.out⟩
         · have heb:(T0.err != 0)=true:=by simpa using he
           have HNR:Hid (RR=none):=yh (HYES.out.trans (if_neg he))
           go_wp2_with (first
           | ((with_reducible show wpList _ _ _ (⟨_,.build 81 _,_,_,_,_⟩::_) _ _);refine yak rfl 81 [] rfl (some 142) rfl _ rfl _ HBt.out ?_)
           | (
              with_reducible show wpList _ _ _ (⟨_,.store 81 (.tmp 2) _,_,_,_,_⟩::_) _ _
              refine yab rfl 81 (.tmp 2) (.tmp 142) rfl w.heap.size 0 ZT ZT _ rfl rfl (HB14.out.hd) (by have:=HZ72.out;have:=HZ72.out;omega) (by rw[yam,HZ72.out]) HZ1.out ?_
              intro wf hr hg
              rw[yad (HZ72.out.trans HZ72.out.symm)]at hr
              have HR9:=yh hr
              have HB9:=yh (below_own HB14.out.1 hg (fun k hk=>by cases hk;exact Nat.le_refl _))
              clear hr hg))
           refine bodyPost_ret (yaj rfl _ _ w.heap.size 81 ZT _ rfl HR9.out Tryz.underlying81 rfl (by rw[yam];simp[HZ72.out]) (.int .i64 (T0.err)) rfl) rfl ⟨(by rw[HNR.out];exact⟨T0.err,heb,(by show _=Ending.returned (.tuple #[.agg Tx.none.cells.toArray,.int .i64 (T0.err)]);rw[HZe.out])⟩),HB9.out⟩
theorem ypq (s:ByteArray)(w:World)(hs:s.size≤140737488351232)(hlen :∀L,Tx.listAll s.data.toList=some L→L.length=3):
 Calls Tryz.prog 45 #[.string s] w fun e w'=>ReadEnds (Tx.read s.data.toList) e∧Below w.heap.size w w':=by
 obtain⟨RR,hRR⟩:=yx (Tx.read s.data.toList)
 rw[hRR]
 have HRR:=yh hRR
 clear hRR
 have hzv :∀W:World,(zeroValue 81).run Tryz.prog W=.ok (.agg Tx.none.cells.toArray) W:=yk2
 have HBt:Hid (Tryz.prog.built 81 []=some Tx.none.cells.toArray):=yh yco
 have HZ72:=yh (Tx.yag Tx.yb1)
 have HZ1:=yh (Tx.yan Tx.yb1)
 obtain⟨ZT,hZe⟩:=yx (Tx.none.cells)
 rw[hZe]at hzv HBt HZ72 HZ1
 have HZe:=yh hZe
 clear hZe
 have LS:=yh (fun W=>ycx s W hs)
 have RL:Hid (∀(X:ByteArray),X.size≤65536→∀W,Calls Tryz.prog 73 #[.string X] W fun e w' =>∃(L:List (List UInt8)) (v:Value) (n:Int),e=.returned (.tuple #[v,.int .i64 n])∧TextsV w' v L∧ListIs X.data.toList L n∧Below W.heap.size W w'):=yh (fun X h W=>ycx X W (by omega))
 have RN:Hid (∀(X:ByteArray),X.size≤65536→∀W:World,Calls Tryz.prog 74 #[.string X] W fun e w' =>∃(y n:Int),e=.returned (.tuple #[.int .i64 y,.int .i64 n])∧NumIs X.data.toList y n∧W=w'):=yh (fun X h W=>yd0 X W (by omega))
 have RH:Hid (∀(X:ByteArray),X.size=32→∀W,Calls Tryz.prog 75 #[.string X] W fun e w'=>e=.returned (.agg (bRow X.data.toList).toList.toArray)∧Below W.heap.size W w'):=yh (fun X h W=>by have:=yg8 X W h;simpa only [Array.toArray_toList] using this)
 have RC:Hid (∀t:Tx,t.Ok→∀W,Calls Tryz.prog 76 #[.agg t.cells.toArray] W fun e w'=>e=.returned (.int .i64 t.err)∧Below W.heap.size W w'):=yh (fun t ht W=>yc1 t ht W)
 have b1:Blocks w (w.alloc (.cells ZT.toArray 81)) [(w.heap.size,81,ZT)]:=(Blocks.nil ((Below.refl w.heap.size w).alloc (Nat.le_refl _) _)).cons (Row.new w _ _)
 have HB1:=yh b1
 clear b1 hs
 go_enter Tryz.func45,Tryz.ntmps45
 go_wp2_with fail
 refine(LS.out _).mono ?_
 rintro _ w2 ⟨L,v,n,rfl,⟨A,c,rfl,hTx⟩,hL,hb2⟩
 have HB2:=yh (HB1.out.step hb2)
 have HTx:=yh hTx
 have HLt:Hid (∀x∈L,x.length≤65536):=yh (by rcases hL with⟨_,h⟩|⟨_,_,h⟩;exact Tx.ybv h;rw[h];simp)
 clear hb2 hTx
 rcases hL with⟨rfl,hLa⟩|⟨hne,hLa,hLn⟩
 rotate_left
 · have hne':=hne
   have HNR:Hid (RR=none):=yh (by rw[←HRR.out];exact Tx.yit hLa)
   clear hLa hLn
   go_wp2_with (first
   | ((with_reducible show wpList _ _ _ (⟨_,.build 81 _,_,_,_,_⟩::_) _ _);refine yak rfl 81 [] rfl (some 20) rfl _ rfl _ HBt.out ?_)
   | (
      with_reducible show wpList _ _ _ (⟨_,.store 81 (.tmp 2) _,_,_,_,_⟩::_) _ _
      refine yab rfl 81 (.tmp 2) (.tmp 20) rfl w.heap.size 0 ZT ZT _ rfl rfl (HB2.out.hd) (by have:=HZ72.out;have:=HZ72.out;omega) (by rw[yam,HZ72.out]) HZ1.out ?_
      intro wf hr hg
      rw[yad (HZ72.out.trans HZ72.out.symm)]at hr
      have HR9:=yh hr
      have HB9:=yh (below_own HB2.out.1 hg (fun k hk=>by cases hk;exact Nat.le_refl _))
      clear hr hg))
   refine bodyPost_ret (yaj rfl _ _ w.heap.size 81 ZT _ rfl HR9.out Tryz.underlying81 rfl (by rw[yam];simp[HZ72.out]) (.int .i64 (n)) rfl) rfl ⟨(by rw[HNR.out];exact⟨n,hne',(by show _=Ending.returned (.tuple #[.agg Tx.none.cells.toArray,.int .i64 (n)]);rw[HZe.out])⟩),HB9.out⟩
 have hm:=hlen L hLa
 have HLa:=yh hLa
 clear hLa hlen
 rw[hm]
 have hne:L≠[]:=by intro e;rw[e]at hm;simp at hm
 obtain⟨ga,oa,rfl,hga,hca⟩:=HTx.out hne
 clear hne
 have hcx :∀j (h:j<L.length),∃X:ByteArray,X=⟨L[j].toArray⟩∧X.size=L[j].length∧∀W,Below w2.heap.size w2 W→W.cell? ⟨ga,oa+j,none⟩=some (.string X):=fun j h=>⟨_,rfl,by show L[j].toArray.size=_;simp,fun W hW=>(hW.cell (p:=⟨ga,oa+j,none⟩) hga).trans (hca j h)⟩
 have HCx:=yh hcx
 clear hca hcx
 go_wp2_with fail
 go_loopw [6] (fun i wr =>∃(k:Nat),1≤k∧k≤3∧i=.int .i64 k∧w2=wr∧∀j (h:j<L.length),1≤j→j<k→L[j].length=32) (fun i _=>3-(intOf i).toNat)
 case atStart=>exact⟨1,Nat.le_refl _,by decide,rfl,rfl,fun j _ h1 h2=>by omega⟩
 case round=>
  obtain⟨k,hk1,hkm,rfl,rfl,hall⟩:=hrel
  have HAll:=yh hall
  clear hall
  by_cases hk:k<3
  · have hki:(k:Int)<3:=by omega
    have hk0:(0:Int)≤(k:Int):=by omega
    obtain⟨X,hX,hXs,hXc⟩:=HCx.out k (by omega)
    have c0:=hXc _ (Below.refl _ _)
    clear hX hXc
    by_cases hq:X.size=32
    · have hz:(X.size:Int)=32:=by omega
      have HQ:Hid (L[k].length=32):=yh (by omega)
      clear hq hXs
      go_wp2_with fail
      exact⟨⟨k+1,by omega,by omega,by go_num,by first|rfl|trivial,fun j hj h1 h2=>by
       rcases Nat.lt_or_ge j k with h3|h3
       · exact HAll.out j hj h1 h3
       · have:j=k:=by omega
         subst this;exact HQ.out⟩,by simp[intOf];omega⟩
    · have hz:((X.size:Int) != 32)=true:=by simp;omega
      have HNR:Hid (RR=none):=yh (by rw[←HRR.out];exact Tx.ymn HLa.out hk1 (by omega) (fun e=>hq (by rw[hXs];exact e)))
      clear hq hXs
      go_wp2_with (first
      | ((with_reducible show wpList _ _ _ (⟨_,.build 81 _,_,_,_,_⟩::_) _ _);refine yak rfl 81 [] rfl (some 43) rfl _ rfl _ HBt.out ?_)
      | (
         with_reducible show wpList _ _ _ (⟨_,.store 81 (.tmp 2) _,_,_,_,_⟩::_) _ _
         refine yab rfl 81 (.tmp 2) (.tmp 43) rfl w.heap.size 0 ZT ZT _ rfl rfl (HB2.out.hd) (by have:=HZ72.out;have:=HZ72.out;omega) (by rw[yam,HZ72.out]) HZ1.out ?_
         intro wf hr hg
         rw[yad (HZ72.out.trans HZ72.out.symm)]at hr
         have HR9:=yh hr
         have HB9:=yh (below_own HB2.out.1 hg (fun k hk=>by cases hk;exact Nat.le_refl _))
         clear hr hg))
      refine bodyPost_ret (yaj rfl _ _ w.heap.size 81 ZT _ rfl HR9.out Tryz.underlying81 rfl (by rw[yam];simp[HZ72.out]) (.int .i64 (6)) rfl) rfl ⟨(by rw[HNR.out];exact⟨6,by decide,(by show _=Ending.returned (.tuple #[.agg Tx.none.cells.toArray,.int .i64 (6)]);rw[HZe.out])⟩),HB9.out⟩
  · obtain rfl:k=3:=by omega
    have hl0 :∀j (h:j<L.length),1≤j→L[j].length=32:=fun j h h1=>HAll.out j h h1 (by omega)
    generalize w2=wo at *
    obtain⟨X0,hX0,hs0,hc0⟩:=HCx.out 0 (by omega)
    obtain⟨X1,hX1,hs1,hc1⟩:=HCx.out 1 (by omega)
    obtain⟨X2,hX2,hs2,hc2⟩:=HCx.out 2 (by omega)
    have HLtA:=yh hga
    have hb0:X0.size≤65536:=by rw[hs0];exact HLt.out _ (List.getElem_mem _)
    have ht1:X1.size=32:=by rw[hs1];exact hl0 1 (by omega) (by omega)
    have ht2:X2.size=32:=by rw[hs2];exact hl0 2 (by omega) (by omega)
    have HX2:=yh hc2
    have HX2e:=yh hX2
    clear hX2 hs2 hc2
    have e0:X0.data.toList=L[0]'(by omega):=(congrArg (fun x:ByteArray=>x.data.toList) hX0).trans (yeh _)
    have e1:X1.data.toList=L[1]'(by omega):=(congrArg (fun x:ByteArray=>x.data.toList) hX1).trans (yeh _)
    have e2:X2.data.toList=L[2]'(by omega):=(congrArg (fun x:ByteArray=>x.data.toList) HX2e.out).trans (yeh _)
    have HR1:Hid (RR=Tx.readOf X0.data.toList (some { Tx.none with tag:=X1.data.toList,bY:=X2.data.toList,lane:=true })):=yh (by rw[←HRR.out];exact Tx.yn1 (by rw[HLa.out,e0,e1,e2];exact congrArg some (yn9 hm)) ht1 ht2)
    clear e2
    clear e0 e1
    have HX0:=yh hc0
    have HX1:=yh hc1
    have c0:wo.cell? ⟨ga,oa,none⟩=some (.string X0):=hc0 _ (Below.refl _ _)
    clear hX0 hX1 hs0 hs1 hc0 hc1 hl0
    go_wp2_with fail
    refine(RL.out X0 hb0 _).mono ?_
    rintro _ w3 ⟨K,v3,n3,rfl,⟨A3,c3,rfl,hT3⟩,hL3,hb3⟩
    have HB3:=yh (HB2.out.step hb3)
    have HX13:=yh (fun W (hW:Below w3.heap.size w3 W)=>HX1.out W (yaa hb3 hW))
    have HX23:=yh (fun W (hW:Below w3.heap.size w3 W)=>HX2.out W (yaa hb3 hW))
    have HT3:=yh hT3
    have HL3:Hid (∀x∈K,x.length≤65536):=yh (by rcases hL3 with⟨_,h⟩|⟨_,_,h⟩;exact Tx.ybv h;rw[h];simp)
    have HLtA:=yh (Nat.lt_of_lt_of_le HLtA.out hb3.size)
    clear hb3 hT3 c0 HX1
    rcases hL3 with⟨rfl,hLa3⟩|⟨hne3,hLa3,hLn3⟩
    rotate_left
    · have hne3':=hne3
      have HNR:Hid (RR=none):=yh (by rw[HR1.out];exact Tx.yhy hLa3)
      clear hLa3 hLn3
      go_wp2_with (first
      | ((with_reducible show wpList _ _ _ (⟨_,.build 81 _,_,_,_,_⟩::_) _ _);refine yak rfl 81 [] rfl (some 53) rfl _ rfl _ HBt.out ?_)
      | (
         with_reducible show wpList _ _ _ (⟨_,.store 81 (.tmp 2) _,_,_,_,_⟩::_) _ _
         refine yab rfl 81 (.tmp 2) (.tmp 53) rfl w.heap.size 0 ZT ZT _ rfl rfl (HB3.out.hd) (by have:=HZ72.out;have:=HZ72.out;omega) (by rw[yam,HZ72.out]) HZ1.out ?_
         intro wf hr hg
         rw[yad (HZ72.out.trans HZ72.out.symm)]at hr
         have HR9:=yh hr
         have HB9:=yh (below_own HB3.out.1 hg (fun k hk=>by cases hk;exact Nat.le_refl _))
         clear hr hg))
      refine bodyPost_ret (yaj rfl _ _ w.heap.size 81 ZT _ rfl HR9.out Tryz.underlying81 rfl (by rw[yam];simp[HZ72.out]) (.int .i64 (n3)) rfl) rfl ⟨(by rw[HNR.out];exact⟨n3,hne3',(by show _=Ending.returned (.tuple #[.agg Tx.none.cells.toArray,.int .i64 (n3)]);rw[HZe.out])⟩),HB9.out⟩
    have HLa3:=yh hLa3
    clear hLa3
    obtain⟨q,hq⟩ :∃q,q=K.length:=⟨_,rfl⟩
    rw[←hq]
    have Hq:=yh hq
    clear hq
    by_cases hqb:q=7
    rotate_left
    · have e1:((q:Int) != 7)=true:=by simp;omega
      have HNR:Hid (RR=none):=yh (by rw[HR1.out];exact Tx.yhx HLa3.out (by show K.length≠7;have:=Hq.out;omega))
      clear hqb
      go_wp2_with (first
      | ((with_reducible show wpList _ _ _ (⟨_,.build 81 _,_,_,_,_⟩::_) _ _);refine yak rfl 81 [] rfl (some 73) rfl _ rfl _ HBt.out ?_)
      | (
         with_reducible show wpList _ _ _ (⟨_,.store 81 (.tmp 2) _,_,_,_,_⟩::_) _ _
         refine yab rfl 81 (.tmp 2) (.tmp 73) rfl w.heap.size 0 ZT ZT _ rfl rfl (HB3.out.hd) (by have:=HZ72.out;have:=HZ72.out;omega) (by rw[yam,HZ72.out]) HZ1.out ?_
         intro wf hr hg
         rw[yad (HZ72.out.trans HZ72.out.symm)]at hr
         have HR9:=yh hr
         have HB9:=yh (below_own HB3.out.1 hg (fun k hk=>by cases hk;exact Nat.le_refl _))
         clear hr hg))
      refine bodyPost_ret (yaj rfl _ _ w.heap.size 81 ZT _ rfl HR9.out Tryz.underlying81 rfl (by rw[yam];simp[HZ72.out]) (.int .i64 (6)) rfl) rfl ⟨(by rw[HNR.out];exact⟨6,by decide,(by show _=Ending.returned (.tuple #[.agg Tx.none.cells.toArray,.int .i64 (6)]);rw[HZe.out])⟩),HB9.out⟩
    subst hqb
    obtain⟨gb,ob,rfl,hgb,hcb⟩:=HT3.out (by intro e;have:=Hq.out;rw[e]at this;simp at this)
    have hck :∀j (h:j<K.length),∃X:ByteArray,X.size≤65536∧X.data.toList=K[j]∧∀W,Below w3.heap.size w3 W→W.cell? ⟨gb,ob+j,none⟩=some (.string X):=fun j h=>⟨⟨K[j].toArray⟩,by have:=HL3.out _ (List.getElem_mem h);show K[j].toArray.size≤_;simpa using this,yeh _,fun W hW=>(hW.cell (p:=⟨gb,ob+j,none⟩) hgb).trans (hcb j h)⟩
    have HCk:=yh hck
    clear hcb hck hgb
    obtain⟨i0,hi,hz,hs,hby⟩:=int5
    have Hi:=yh hi
    have Hz:=yh hz
    have Hs:=yh hs
    have Hby:=yh hby
    clear hi hz hs hby
    go_wp2_with fail
    go_loopw [8,9] (fun v i wr =>∃(k:Nat) (ns:List Int),k≤7∧i=.int .i64 k∧ns.length=k∧(∀x∈ns,Tx.fits x)∧wr.ownsRow w3.heap.size 3 1 v k (Is ns)∧Below w3.heap.size w3 wr∧∀j (h:j<K.length),j<k→j≠4→Tx.numAll K[j]=some (ns.getD j 0)) (fun _ i _=>7-(intOf i).toNat)
    case atStart=>exact⟨0,[],Nat.zero_le _,rfl,rfl,by simp,⟨rfl,.inl ⟨rfl,rfl⟩⟩,Below.refl _ _,fun j h h1=>by omega⟩
    case round=>
     obtain⟨k,ns,hkb,rfl,hnl,hnf,hown,hbr,hnum⟩:=hrel
     have HNum:=yh hnum
     clear hnum
     have Hown:=yh hown
     have Hbr:=yh hbr
     have Hnl:=yh hnl
     have Hnf:=yh hnf
     clear hown hbr hnl hnf
     by_cases hk:k<7
     · have hki:(k:Int)<7:=by omega
       have hk0:(0:Int)≤(k:Int):=by omega
       have hk63:k+1≤maxLen:=by unfold maxLen;omega
       have hk48:((k+1)+(k+1) / 4+192)*8≤281474976710656:=by omega
       by_cases h4:k=4
       · have d4:((k:Int) == 4)=true:=by simp;omega
         have HNumN:Hid (∀j (h:j<K.length),j<k+1→j≠4→Tx.numAll K[j]=some ((ns ++ [(0:Int)]).getD j 0)):=yh (fun j hj h1 h2=>by
          rw[HNum.out j hj (by omega) h2,List.getD_eq_getElem?_getD,List.getD_eq_getElem?_getD,List.getElem?_append_left (by have:=Hnl.out;omega)])
         clear h4
         have hone:=yiy wr 3 0
         have hown2:=Hown.out.alloc (.cells #[.int .i64 0] 3)
         have hb2:Below w3.heap.size w3 (wr.alloc (.cells #[.int .i64 0] 3)):=Hbr.out.alloc Hbr.out.size _
         have hsz2:w3.heap.size≤(wr.alloc (.cells #[.int .i64 0] 3)).heap.size:=hb2.size
         have Hone:=yh hone
         have Hown2:=yh hown2
         have Hb2:=yh hb2
         clear hone hown2 hb2
         go_wp2_with (at_builtin; refine wpList_append_own_wide _ rfl (.tmp 82) (.tmp 83) 45 rfl w3.heap.size 3 i0 (.int .i64 0) 1 8 Tryz.underlying45 Hi.out Hz.out Hs.out Hby.out rfl (by decide) _ _ _ rfl Hown2.out ⟨wr.heap.size, 0, none⟩ 1 1 [.int .i64 0] rfl rfl Hone.out (yfy _) hk63 hk48 hsz2 ?_
                      intro v' w5 hown3 hgrow3 _
                      obtain⟨g,cp,rfl⟩:=ownsRow_succ hown3
                      have Hb3:=yh (yd5 Hb2.out hsz2 Hown2.out hgrow3)
                      have Hown3:=yh hown3
                      clear hown3 hgrow3)
         exact⟨⟨k+1,ns ++ [0],by omega,by go_num,by simp[Hnl.out],fun x hx=>by
          rcases List.mem_append.1 hx with hx|hx
          · exact Hnf.out x hx
          · rw[List.mem_singleton.1 hx];exact yib,by rw[show Is (ns ++ [0])=Is ns ++ [.int .i64 0] by simp[Is]];exact Hown3.out,Hb3.out,HNumN.out⟩,by simp[intOf];omega⟩
       · have d4:((k:Int) == 4)=false:=by simp;omega
         obtain⟨X,hXs,hXe,hXc⟩:=HCk.out k (by have:=Hq.out;omega)
         have H4:Hid (k≠4):=yh h4
         have HXe:=yh hXe
         clear hXe
         have c0:=hXc _ Hbr.out
         clear h4 hXc
         go_wp2_with fail
         refine(RN.out X hXs _).mono ?_
         rintro _ w4 ⟨y,en,rfl,hI,rfl⟩
         have HBr:=yh (HB3.out.step Hbr.out)
         rcases hI with⟨rfl,hy⟩|⟨hen,hy⟩
         · have hyf:=Tx.yct hy
           have Hyf:=yh hyf
           have HNumN:Hid (∀j (h:j<K.length),j<k+1→j≠4→Tx.numAll K[j]=some ((ns ++ [y]).getD j 0)):=yh (fun j hj h1 h2=>by
            rcases Nat.lt_or_ge j k with h3|h3
            · rw[HNum.out j hj h3 h2,List.getD_eq_getElem?_getD,List.getD_eq_getElem?_getD,List.getElem?_append_left (by have:=Hnl.out;omega)]
            · have e:j=k:=by omega
              subst e
              have hl:=Hnl.out
              rw[←HXe.out,hy,List.getD_eq_getElem?_getD,List.getElem?_append_right (by omega),hl,Nat.sub_self]
              rfl)
           clear hy hyf c0
           have hone:=yiy wr 3 y
           have hown2:=Hown.out.alloc (.cells #[.int .i64 y] 3)
           have hb2:Below w3.heap.size w3 (wr.alloc (.cells #[.int .i64 y] 3)):=Hbr.out.alloc Hbr.out.size _
           have hsz2:w3.heap.size≤(wr.alloc (.cells #[.int .i64 y] 3)).heap.size:=hb2.size
           have Hone:=yh hone
           have Hown2:=yh hown2
           have Hb2:=yh hb2
           clear hone hown2 hb2
           go_wp2_with (at_builtin; refine wpList_append_own_wide _ rfl (.tmp 97) (.tmp 99) 45 rfl w3.heap.size 3 i0 (.int .i64 0) 1 8 Tryz.underlying45 Hi.out Hz.out Hs.out Hby.out rfl (by decide) _ _ _ rfl Hown2.out ⟨wr.heap.size, 0, none⟩ 1 1 [.int .i64 y] rfl rfl Hone.out (yfy _) hk63 hk48 hsz2 ?_
                        intro v' w5 hown3 hgrow3 _
                        obtain⟨g,cp,rfl⟩:=ownsRow_succ hown3
                        have Hb3:=yh (yd5 Hb2.out hsz2 Hown2.out hgrow3)
                        have Hown3:=yh hown3
                        clear hown3 hgrow3)
           exact⟨⟨k+1,ns ++ [y],by omega,by go_num,by simp[Hnl.out],fun x hx=>by
            rcases List.mem_append.1 hx with hx|hx
            · exact Hnf.out x hx
            · rw[List.mem_singleton.1 hx];exact Hyf.out,by rw[show Is (ns ++ [y])=Is ns ++ [.int .i64 y] by simp[Is]];exact Hown3.out,Hb3.out,HNumN.out⟩,by simp[intOf];omega⟩
         · have hen':=hen
           have HNR:Hid (RR=none):=yh (by rw[HR1.out];exact Tx.yhw HLa3.out (by have:=Hq.out;omega) H4.out (by rw[←HXe.out];exact hy))
           clear hy c0
           go_wp2_with (first
           | ((with_reducible show wpList _ _ _ (⟨_,.build 81 _,_,_,_,_⟩::_) _ _);refine yak rfl 81 [] rfl (some 95) rfl _ rfl _ HBt.out ?_)
           | (
              with_reducible show wpList _ _ _ (⟨_,.store 81 (.tmp 2) _,_,_,_,_⟩::_) _ _
              refine yab rfl 81 (.tmp 2) (.tmp 95) rfl w.heap.size 0 ZT ZT _ rfl rfl (HBr.out.hd) (by have:=HZ72.out;have:=HZ72.out;omega) (by rw[yam,HZ72.out]) HZ1.out ?_
              intro wf hr hg
              rw[yad (HZ72.out.trans HZ72.out.symm)]at hr
              have HR9:=yh hr
              have HB9:=yh (below_own HBr.out.1 hg (fun k hk=>by cases hk;exact Nat.le_refl _))
              clear hr hg))
           refine bodyPost_ret (yaj rfl _ _ w.heap.size 81 ZT _ rfl HR9.out Tryz.underlying81 rfl (by rw[yam];simp[HZ72.out]) (.int .i64 (en)) rfl) rfl ⟨(by rw[HNR.out];exact⟨en,hen',(by show _=Ending.returned (.tuple #[.agg Tx.none.cells.toArray,.int .i64 (en)]);rw[HZe.out])⟩),HB9.out⟩
     · obtain rfl:k=7:=by omega
       have HBr:=yh (HB3.out.step Hbr.out)
       obtain⟨ns0,hns⟩ :∃ns0,ns0=ns:=⟨_,rfl⟩
       obtain⟨n0,n1,n2,n3,n4,n5,n6,he⟩:=Tx.ymi Hnl.out
       have hfit:Tx.fits n0∧Tx.fits n1∧Tx.fits n2∧Tx.fits n3∧Tx.fits n4∧Tx.fits n5∧Tx.fits n6:=by
        have:=Hnf.out
        rw[he]at this
        simp only[List.mem_cons,List.not_mem_nil,or_false]at this
        exact⟨this _ (by simp),this _ (by simp),this _ (by simp),this _ (by simp),this _ (by simp),this _ (by simp),this _ (by simp)⟩
       obtain⟨g8,cp,rfl⟩:=ownsRow_succ Hown.out
       rw[he]at hns
       have HI:Hid (∀W,Below wr.heap.size wr W→W.cell? ⟨g8,0,none⟩=some (.int .i64 n0)∧W.cell? ⟨g8,1,none⟩=some (.int .i64 n1)∧W.cell? ⟨g8,2,none⟩=some (.int .i64 n2)∧W.cell? ⟨g8,3,none⟩=some (.int .i64 n3)∧W.cell? ⟨g8,5,none⟩=some (.int .i64 n5)∧W.cell? ⟨g8,6,none⟩=some (.int .i64 n6)):=yh (fun W hW=>by
        have hlt:=(Hown.out.lt g8 rfl).2
        have hc:=Hown.out.cells (g:=g8) rfl
        have hadd :∀k i,(⟨g8,k,none⟩:Addr).add i=⟨g8,k+i,none⟩:=fun k i=>by unfold Addr.add;split <;> simp_all
        have f :∀(j:Nat) (u:Value),(Is ns0)[j]? = some u→W.cell? ⟨g8,j,none⟩=some u:=fun j u hu=>(hW.cell (p:=⟨g8,j,none⟩) hlt).trans (by have:=hc j u (by rw[he,←hns];exact hu);rwa[hadd,Nat.zero_add]at this)
        exact⟨f 0 _ (by rw[hns];rfl),f 1 _ (by rw[hns];rfl),f 2 _ (by rw[hns];rfl),f 3 _ (by rw[hns];rfl),f 5 _ (by rw[hns];rfl),f 6 _ (by rw[hns];rfl)⟩)
       obtain⟨Y4,hY4s,hY4e,hY4⟩:=HCk.out 4 (by have:=Hq.out;omega)
       have HY:=yh (fun W (hW:Below wr.heap.size wr W)=>hY4 W (yaa Hbr.out hW))
       have HX1:=yh (fun W (hW:Below wr.heap.size wr W)=>HX13.out W (yaa Hbr.out hW))
       have HX2b:=yh (fun W (hW:Below wr.heap.size wr W)=>HX23.out W (yaa Hbr.out hW))
       have hl1:X1.data.toList.length=32:=ht1
       have hbuilt:=ytw n0 n1 n2 n3 Y4 X1.data.toList hl1
       have hT0:Tx.Ok ⟨n0,n1,n2,n3,Y4,false,0,0,Tx.zero,X1.data.toList⟩:=⟨rfl,hl1,Nat.le_trans hY4s (by decide),hfit.1,hfit.2.1,hfit.2.2.1,hfit.2.2.2.1,yib,yib⟩
       have RH1:=yh (RH.out X1 ht1)
       have HT072:=yh (Tx.yag hT0)
       have HT01:=yh (Tx.yan hT0)
       obtain⟨T0,hT0e⟩ :∃T0:Tx,T0=⟨n0,n1,n2,n3,Y4,false,0,0,Tx.zero,X1.data.toList⟩:=⟨_,rfl⟩
       rw[←hT0e]at hbuilt HT072 HT01 hT0
       generalize hH1:(bRow X1.data.toList).toList=H1 at *
       clear hH1
       have HBd:=yh hbuilt
       have hl2:X2.data.toList.length=32:=ht2
       have RH2:=yh (RH.out X2 ht2)
       have HH232:=yh (Tx.yap X2.data.toList hl2)
       have HH21:Hid (∀v∈(bRow X2.data.toList).toList,v.oneCell'=true):=yh (ybw _ hl2)
       have Hl2:=yh hl2
       have hT1:Tx.Ok { T0 with lane:=true,round:=n5,turn:=n6,bY:=X2.data.toList }:=⟨hl2,hT0.tag,hT0.data,hT0.frm,hT0.nonce,hT0.fee,hT0.to,hfit.2.2.2.2.2.1,hfit.2.2.2.2.2.2⟩
       obtain⟨T1,hT1e⟩ :∃T1:Tx,T1 = { T0 with lane:=true,round:=n5,turn:=n6,bY:=X2.data.toList }:=⟨_,rfl⟩
       rw[←hT1e]at hT1
       have HT1:=yh hT1
       have HT1e:=yh hT1e
       have HT172:=yh (Tx.yag hT1)
       have HT11:=yh (Tx.yan hT1)
       clear hl2 hT1 hT1e ht2
       have HT0:=yh hT0
       have HT0e:=yh hT0e
       have HYES:Hid (RR=if T1.err=0 then some T1 else none):=yh (by
        have hq5:K.length=7:=Hq.out.symm
        have f:=fun (j:Nat) (h:j<K.length) (h5:j<7) (h4:j≠4)=>HNum.out j h h5 h4
        rw[he]at f
        rw[HR1.out,Tx.yj0 HLa3.out hq5 (f 0 (by omega) (by omega) (by omega)) (f 1 (by omega) (by omega) (by omega)) (f 2 (by omega) (by omega) (by omega)) (f 3 (by omega) (by omega) (by omega)) (f 5 (by omega) (by omega) (by omega)) (f 6 (by omega) (by omega) (by omega)),yqn hY4e]
        rw[HT1e.out,HT0e.out]
        rfl)
       clear hbuilt hT0 hT0e hl1 hY4 hY4s hY4e
       go_wp2_with fail
       refine wp_region_noPanic ?_
       refine wp_region_held_drew (S:=fun w'=>Below wr.heap.size wr w') (by kernel_rfl) ((Below.refl _ _).drew) (fun gH=>?_)
       generalize wr.drew=wq at *
       refine yg 0 (.slice (some ⟨g8,0,none⟩) 7 cp) rfl gH ?_
       refine yg 1 (.pointer (some ⟨g8,0,none⟩)) rfl gH ?_
       simp only[Act.put,Ya,Yb,Yc,Yd,Ye,Yf]
       refine yk 2 (.int .i64 n0) rfl (fun w' hSw=>by have hq:=hSw;have hd:=(HI.out _ hq).1;go_simp) gH ?_
       refine yg 3 (.slice (some ⟨g8,0,none⟩) 7 cp) rfl gH ?_
       refine yg 4 (.pointer (some ⟨g8,1,none⟩)) rfl gH ?_
       simp only[Act.put,Ya,Yb,Yc,Yd,Ye,Yf]
       refine yk 5 (.int .i64 n1) rfl (fun w' hSw=>by have hq:=hSw;have hd:=(HI.out _ hq).2.1;go_simp) gH ?_
       refine yg 6 (.slice (some ⟨g8,0,none⟩) 7 cp) rfl gH ?_
       refine yg 7 (.pointer (some ⟨g8,2,none⟩)) rfl gH ?_
       simp only[Act.put,Ya,Yb,Yc,Yd,Ye,Yf]
       refine yk 8 (.int .i64 n2) rfl (fun w' hSw=>by have hq:=hSw;have hd:=(HI.out _ hq).2.2.1;go_simp) gH ?_
       refine yg 9 (.slice (some ⟨g8,0,none⟩) 7 cp) rfl gH ?_
       refine yg 10 (.pointer (some ⟨g8,3,none⟩)) rfl gH ?_
       simp only[Act.put,Ya,Yb,Yc,Yd,Ye,Yf]
       refine yk 11 (.int .i64 n3) rfl (fun w' hSw=>by have hq:=hSw;have hd:=(HI.out _ hq).2.2.2.1;go_simp) gH ?_
       refine yg 12 (.slice (some ⟨gb,ob,none⟩) 7 c3) rfl gH ?_
       refine yg 13 (.pointer (some ⟨gb,(ob+4),none⟩)) rfl gH ?_
       simp only[Act.put,Ya,Yb,Yc,Yd,Ye,Yf]
       refine yk 14 (.string Y4) rfl (fun w' hSw=>by have hq:=hSw;have hd:=HY.out _ hq;go_simp) gH ?_
       refine yg 15 (.slice (some ⟨ga,oa,none⟩) 3 c) rfl gH ?_
       refine yg 16 (.pointer (some ⟨ga,(oa+1),none⟩)) rfl gH ?_
       simp only[Act.put,Ya,Yb,Yc,Yd,Ye,Yf]
       refine yk 17 (.string X1) rfl (fun w' hSw=>by have hq:=hSw;have hd:=HX1.out _ hq;go_simp) gH ?_
       refine yS 18 20 (by kernel_rfl) rfl rfl (fun K1 hK1=>?_) (fun K1 hK1=>?_)
       · skip
         try simp only[Act.put,Ya,Yb,Yc,Yd,Ye,Yf]
         go_simp
         refine Calls.mono (RH1.out _) ?_
         rintro e wc1 ⟨rfl,hc2⟩
         refine hK1.out _ _ (yaa gH hc2) (fun gH=>?_)
         clear hK1 K1
         refine' yl 19 (.agg T0.cells.toArray) rfl (ybg (by rfl) 81 [(0,.tmp 103),(1,.tmp 106),(2,.tmp 109),(3,.tmp 112),(4,.tmp 115),(9,.tmp 119)] rfl [(0,.int .i64 n0),(1,.int .i64 n1),(2,.int .i64 n2),(3,.int .i64 n3),(4,.string Y4),(9,.agg H1.toArray)] rfl T0.cells.toArray HBd.out) gH ?_
         refine yR 20 (by kernel_rfl) rfl (fun K1 hK1=>?_)
         try simp only[Act.put,Ya,Yb,Yc,Yd,Ye,Yf]
         go_simp
         have hd4:=(Below.refl wc1.heap.size wc1).alloc (Nat.le_refl _) (.cells ZT.toArray 81)
         have rA:Row (wc1.alloc (.cells ZT.toArray 81)) wc1.heap.size 81 ZT:=Row.new wc1 81 ZT
         have rAs:wr.heap.size≤wc1.heap.size:=gH.size
         have eH:=yaa gH hd4
         generalize wc1.alloc (.cells ZT.toArray 81)=wa3 at *
         obtain⟨ga5,ga5e⟩ :∃ga5,ga5=wc1.heap.size:=⟨_,rfl⟩
         rw[←ga5e]at rA rAs ⊢
         refine hK1.out _ _ eH (fun gH=>?_)
         clear hK1 K1
         clear eH ga5e
         refine yR 21 (by kernel_rfl) rfl (fun K1 hK1=>?_)
         try simp only[Act.put,Ya,Yb,Yc,Yd,Ye,Yf]
         rw[if_pos (by rfl)]
         refine yar 81 (.tmp 12) (.tmp 120) rfl ga5 0 T0.cells _ _ rfl rfl rA (by have:=HZ72.out;have:=HT072.out;omega) (by rw[yam,HT072.out]) HT01.out ?_
         intro ws6 hrS hgS
         rw[yad (HT072.out.trans HZ72.out.symm)]at hrS
         have HR12:=yh hrS
         have eH:=below_own gH hgS (fun k hk=>by cases hk;exact rAs)
         clear hrS hgS
         refine hK1.out _ _ eH (fun gH=>?_)
         clear hK1 K1
         clear eH
         refine wpAnyH_done (by kernel_rfl) ?_ _
         refine NoPanic.normal ?_
         have HB12:=yh (HBr.out.step gH)
         have Hgs:Hid (wr.heap.size≤ga5):=yh rAs
         have HBw:=yh gH
         clear gH
         generalize ga5=g12 at *
         have hT0:=HT0.out
         have hlt8:=(Hown.out.lt g8 rfl).2
         have hgs:=Hgs.out
         have hne8:g8≠g12:=by omega
         have hne8':g12≠g8:=by omega
         have hnea:ga≠g12:=by have:=HLtA.out;have:=Hbr.out.size;omega
         have hnea':g12≠ga:=fun e=>hnea e.symm
         have d5:=HR12.out.cell 5 (by have:=HT072.out;omega)
         have d6:=HR12.out.cell 6 (by have:=HT072.out;omega)
         have d7:=HR12.out.cell 7 (by have:=HT072.out;omega)
         have f5:=HR12.out.free 5
         have f6:=HR12.out.free 6
         have f7:=HR12.out.free 7
         have c85:=(HI.out _ HBw.out).2.2.2.2.1
         have c86:=(HI.out _ HBw.out).2.2.2.2.2
         have cx2:=HX2b.out _ HBw.out
         clear hlt8 hgs hT0
         go_wp2_with fail
         have hr3:=((HR12.out.set 5 (.bool true) (by have:=HT072.out;omega)).set 6 (.int .i64 n5) (by rw[List.length_set];have:=HT072.out;omega)).set 7 (.int .i64 n6) (by rw[List.length_set,List.length_set];have:=HT072.out;omega)
         have hb3':Below wr.heap.size wr (((ws6.setCell ⟨g12,5,none⟩ (.bool true)).setCell ⟨g12,6,none⟩ (.int .i64 n5)).setCell ⟨g12,7,none⟩ (.int .i64 n6)):=((HBw.out.setCell Hgs.out _ (p:=⟨g12,5,none⟩)).setCell Hgs.out _ (p:=⟨g12,6,none⟩)).setCell Hgs.out _ (p:=⟨g12,7,none⟩)
         generalize ((ws6.setCell ⟨g12,5,none⟩ (.bool true)).setCell ⟨g12,6,none⟩ (.int .i64 n5)).setCell ⟨g12,7,none⟩ (.int .i64 n6)=w13 at *
         have HR13:=yh hr3
         have HBw13:=yh hb3'
         clear hr3 hb3' d5 d6 d7 f5 f6 f7 c85 c86 cx2 hne8 hne8' hnea hnea'
         refine(RH2.out _).mono ?_
         rintro _ w15 ⟨rfl,hb15⟩
         have HR15:=yh (HR13.out.below hb15)
         have HBw15:=yh (yaa HBw13.out hb15)
         clear hb15
         go_wp2_with (first
          | (
             with_reducible show wpList _ _ _ (⟨_,.store 62 (.tmp 137) _,_,_,_,_⟩::_) _ _
             refine yab rfl 62 (.tmp 137) (.tmp 136) rfl g12 8 (bRow X2.data.toList).toList _ _ rfl rfl HR15.out (by rw[List.length_set,List.length_set,List.length_set];have:=HT072.out;have:=HH232.out;omega) (by rw[yas,HH232.out]) HH21.out ?_
             intro w16 hr hg
             rw[tx_by HT0.out n5 n6 _ Hl2.out]at hr
             have HR16:=yh hr
             have HBw16:=yh (below_own HBw15.out hg (fun k hk=>by cases hk;exact Hgs.out))
             clear hr hg)
          | ((with_reducible show wpList _ _ _ (⟨_,.load 81 (.tmp 12),_,_,_,_⟩::_) _ _);refine yac rfl 81 (.tmp 12) rfl g12 0 rfl T1.cells _ (yah (by rw[HT1e.out];exact HR16.out)) Tryz.underlying81 rfl (by rw[yam,HT172.out]) ?_))
         refine(RC.out T1 HT1.out _).mono ?_
         rintro _ w14 ⟨rfl,hb14⟩
         have HB14:=yh (HBr.out.step (yaa HBw16.out hb14))
         have HR14:Hid (Row w14 g12 81 T1.cells):=yh (by rw[HT1e.out];exact HR16.out.below hb14)
         clear hb14
         by_cases he:T1.err=0
         · rw[he]
           go_wp2_with (first
            | ((with_reducible show wpList _ _ _ (⟨_,.load 81 (.tmp 12),_,_,_,_⟩::_) _ _);refine yac rfl 81 (.tmp 12) rfl g12 0 rfl T1.cells _ (yah (HR14.out)) Tryz.underlying81 rfl (by rw[yam,HT172.out]) ?_)
            | (
               with_reducible show wpList _ _ _ (⟨_,.store 81 (.tmp 2) _,_,_,_,_⟩::_) _ _
               refine yab rfl 81 (.tmp 2) (.tmp 144) rfl w.heap.size 0 T1.cells ZT _ rfl rfl (HB14.out.hd) (by have:=HZ72.out;have:=HT172.out;omega) (by rw[yam,HT172.out]) HT11.out ?_
               intro wf hr hg
               rw[yad (HT172.out.trans HZ72.out.symm)]at hr
               have HR9:=yh hr
               have HB9:=yh (below_own HB14.out.1 hg (fun k hk=>by cases hk;exact Nat.le_refl _))
               clear hr hg))
           refine bodyPost_ret (yaj rfl _ _ w.heap.size 81 T1.cells _ rfl HR9.out Tryz.underlying81 rfl (by rw[yam];simp[HT172.out]) (.int .i64 0) rfl) rfl ⟨(by rw[show RR=some T1 from HYES.out.trans (if_pos he)];rfl),HB9.out⟩
         · have heb:(T1.err != 0)=true:=by simpa using he
           have HNR:Hid (RR=none):=yh (HYES.out.trans (if_neg he))
           go_wp2_with (first
           | ((with_reducible show wpList _ _ _ (⟨_,.build 81 _,_,_,_,_⟩::_) _ _);refine yak rfl 81 [] rfl (some 142) rfl _ rfl _ HBt.out ?_)
           | (
              with_reducible show wpList _ _ _ (⟨_,.store 81 (.tmp 2) _,_,_,_,_⟩::_) _ _
              refine yab rfl 81 (.tmp 2) (.tmp 142) rfl w.heap.size 0 ZT ZT _ rfl rfl (HB14.out.hd) (by have:=HZ72.out;have:=HZ72.out;omega) (by rw[yam,HZ72.out]) HZ1.out ?_
              intro wf hr hg
              rw[yad (HZ72.out.trans HZ72.out.symm)]at hr
              have HR9:=yh hr
              have HB9:=yh (below_own HB14.out.1 hg (fun k hk=>by cases hk;exact Nat.le_refl _))
              clear hr hg))
           refine bodyPost_ret (yaj rfl _ _ w.heap.size 81 ZT _ rfl HR9.out Tryz.underlying81 rfl (by rw[yam];simp[HZ72.out]) (.int .i64 (T1.err)) rfl) rfl ⟨(by rw[HNR.out];exact⟨T1.err,heb,(by show _=Ending.returned (.tuple #[.agg Tx.none.cells.toArray,.int .i64 (T1.err)]);rw[HZe.out])⟩),HB9.out⟩
       · skip
         try simp only[Act.put,Ya,Yb,Yc,Yd,Ye,Yf]
         go_simp
         have hd8:=(Below.refl wq.heap.size wq).alloc (Nat.le_refl _) (.cells ZT.toArray 81)
         have rA:Row (wq.alloc (.cells ZT.toArray 81)) wq.heap.size 81 ZT:=Row.new wq 81 ZT
         have rAs:wr.heap.size≤wq.heap.size:=gH.size
         have eH:=yaa gH hd8
         generalize wq.alloc (.cells ZT.toArray 81)=wa7 at *
         obtain⟨ga9,ga9e⟩ :∃ga9,ga9=wq.heap.size:=⟨_,rfl⟩
         rw[←ga9e]at rA rAs ⊢
         refine hK1.out _ _ eH (fun gH=>?_)
         clear hK1 K1
         clear eH ga9e
         refine yR 18 (by kernel_rfl) rfl (fun K1 hK1=>?_)
         try simp only[Act.put,Ya,Yb,Yc,Yd,Ye,Yf]
         go_simp
         refine Calls.mono (RH1.out _) ?_
         rintro e wc10 ⟨rfl,hc11⟩
         have rA:=rA.kept (yae hc11 none) (by simp)
         refine hK1.out _ _ (yaa gH hc11) (fun gH=>?_)
         clear hK1 K1
         refine' yl 19 (.agg T0.cells.toArray) rfl (ybg (by rfl) 81 [(0,.tmp 103),(1,.tmp 106),(2,.tmp 109),(3,.tmp 112),(4,.tmp 115),(9,.tmp 119)] rfl [(0,.int .i64 n0),(1,.int .i64 n1),(2,.int .i64 n2),(3,.int .i64 n3),(4,.string Y4),(9,.agg H1.toArray)] rfl T0.cells.toArray HBd.out) gH ?_
         refine yR 21 (by kernel_rfl) rfl (fun K1 hK1=>?_)
         try simp only[Act.put,Ya,Yb,Yc,Yd,Ye,Yf]
         rw[if_pos (by rfl)]
         refine yar 81 (.tmp 12) (.tmp 120) rfl ga9 0 T0.cells _ _ rfl rfl rA (by have:=HZ72.out;have:=HT072.out;omega) (by rw[yam,HT072.out]) HT01.out ?_
         intro ws12 hrS hgS
         rw[yad (HT072.out.trans HZ72.out.symm)]at hrS
         have HR12:=yh hrS
         have eH:=below_own gH hgS (fun k hk=>by cases hk;exact rAs)
         clear hrS hgS
         refine hK1.out _ _ eH (fun gH=>?_)
         clear hK1 K1
         clear eH
         refine wpAnyH_done (by kernel_rfl) ?_ _
         refine NoPanic.normal ?_
         have HB12:=yh (HBr.out.step gH)
         have Hgs:Hid (wr.heap.size≤ga9):=yh rAs
         have HBw:=yh gH
         clear gH
         generalize ga9=g12 at *
         have hT0:=HT0.out
         have hlt8:=(Hown.out.lt g8 rfl).2
         have hgs:=Hgs.out
         have hne8:g8≠g12:=by omega
         have hne8':g12≠g8:=by omega
         have hnea:ga≠g12:=by have:=HLtA.out;have:=Hbr.out.size;omega
         have hnea':g12≠ga:=fun e=>hnea e.symm
         have d5:=HR12.out.cell 5 (by have:=HT072.out;omega)
         have d6:=HR12.out.cell 6 (by have:=HT072.out;omega)
         have d7:=HR12.out.cell 7 (by have:=HT072.out;omega)
         have f5:=HR12.out.free 5
         have f6:=HR12.out.free 6
         have f7:=HR12.out.free 7
         have c85:=(HI.out _ HBw.out).2.2.2.2.1
         have c86:=(HI.out _ HBw.out).2.2.2.2.2
         have cx2:=HX2b.out _ HBw.out
         clear hlt8 hgs hT0
         go_wp2_with fail
         have hr3:=((HR12.out.set 5 (.bool true) (by have:=HT072.out;omega)).set 6 (.int .i64 n5) (by rw[List.length_set];have:=HT072.out;omega)).set 7 (.int .i64 n6) (by rw[List.length_set,List.length_set];have:=HT072.out;omega)
         have hb3':Below wr.heap.size wr (((ws12.setCell ⟨g12,5,none⟩ (.bool true)).setCell ⟨g12,6,none⟩ (.int .i64 n5)).setCell ⟨g12,7,none⟩ (.int .i64 n6)):=((HBw.out.setCell Hgs.out _ (p:=⟨g12,5,none⟩)).setCell Hgs.out _ (p:=⟨g12,6,none⟩)).setCell Hgs.out _ (p:=⟨g12,7,none⟩)
         generalize ((ws12.setCell ⟨g12,5,none⟩ (.bool true)).setCell ⟨g12,6,none⟩ (.int .i64 n5)).setCell ⟨g12,7,none⟩ (.int .i64 n6)=w13 at *
         have HR13:=yh hr3
         have HBw13:=yh hb3'
         clear hr3 hb3' d5 d6 d7 f5 f6 f7 c85 c86 cx2 hne8 hne8' hnea hnea'
         refine(RH2.out _).mono ?_
         rintro _ w15 ⟨rfl,hb15⟩
         have HR15:=yh (HR13.out.below hb15)
         have HBw15:=yh (yaa HBw13.out hb15)
         clear hb15
         go_wp2_with (first
          | (
             with_reducible show wpList _ _ _ (⟨_,.store 62 (.tmp 137) _,_,_,_,_⟩::_) _ _
             refine yab rfl 62 (.tmp 137) (.tmp 136) rfl g12 8 (bRow X2.data.toList).toList _ _ rfl rfl HR15.out (by rw[List.length_set,List.length_set,List.length_set];have:=HT072.out;have:=HH232.out;omega) (by rw[yas,HH232.out]) HH21.out ?_
             intro w16 hr hg
             rw[tx_by HT0.out n5 n6 _ Hl2.out]at hr
             have HR16:=yh hr
             have HBw16:=yh (below_own HBw15.out hg (fun k hk=>by cases hk;exact Hgs.out))
             clear hr hg)
          | ((with_reducible show wpList _ _ _ (⟨_,.load 81 (.tmp 12),_,_,_,_⟩::_) _ _);refine yac rfl 81 (.tmp 12) rfl g12 0 rfl T1.cells _ (yah (by rw[HT1e.out];exact HR16.out)) Tryz.underlying81 rfl (by rw[yam,HT172.out]) ?_))
         refine(RC.out T1 HT1.out _).mono ?_
         rintro _ w14 ⟨rfl,hb14⟩
         have HB14:=yh (HBr.out.step (yaa HBw16.out hb14))
         have HR14:Hid (Row w14 g12 81 T1.cells):=yh (by rw[HT1e.out];exact HR16.out.below hb14)
         clear hb14
         by_cases he:T1.err=0
         · rw[he]
           go_wp2_with (first
            | ((with_reducible show wpList _ _ _ (⟨_,.load 81 (.tmp 12),_,_,_,_⟩::_) _ _);refine yac rfl 81 (.tmp 12) rfl g12 0 rfl T1.cells _ (yah (HR14.out)) Tryz.underlying81 rfl (by rw[yam,HT172.out]) ?_)
            | (
               with_reducible show wpList _ _ _ (⟨_,.store 81 (.tmp 2) _,_,_,_,_⟩::_) _ _
               refine yab rfl 81 (.tmp 2) (.tmp 144) rfl w.heap.size 0 T1.cells ZT _ rfl rfl (HB14.out.hd) (by have:=HZ72.out;have:=HT172.out;omega) (by rw[yam,HT172.out]) HT11.out ?_
               intro wf hr hg
               rw[yad (HT172.out.trans HZ72.out.symm)]at hr
               have HR9:=yh hr
               have HB9:=yh (below_own HB14.out.1 hg (fun k hk=>by cases hk;exact Nat.le_refl _))
               clear hr hg))
           refine bodyPost_ret (yaj rfl _ _ w.heap.size 81 T1.cells _ rfl HR9.out Tryz.underlying81 rfl (by rw[yam];simp[HT172.out]) (.int .i64 0) rfl) rfl ⟨(by rw[show RR=some T1 from HYES.out.trans (if_pos he)];rfl),HB9.out⟩
         · have heb:(T1.err != 0)=true:=by simpa using he
           have HNR:Hid (RR=none):=yh (HYES.out.trans (if_neg he))
           go_wp2_with (first
           | ((with_reducible show wpList _ _ _ (⟨_,.build 81 _,_,_,_,_⟩::_) _ _);refine yak rfl 81 [] rfl (some 142) rfl _ rfl _ HBt.out ?_)
           | (
              with_reducible show wpList _ _ _ (⟨_,.store 81 (.tmp 2) _,_,_,_,_⟩::_) _ _
              refine yab rfl 81 (.tmp 2) (.tmp 142) rfl w.heap.size 0 ZT ZT _ rfl rfl (HB14.out.hd) (by have:=HZ72.out;have:=HZ72.out;omega) (by rw[yam,HZ72.out]) HZ1.out ?_
              intro wf hr hg
              rw[yad (HZ72.out.trans HZ72.out.symm)]at hr
              have HR9:=yh hr
              have HB9:=yh (below_own HB14.out.1 hg (fun k hk=>by cases hk;exact Nat.le_refl _))
              clear hr hg))
           refine bodyPost_ret (yaj rfl _ _ w.heap.size 81 ZT _ rfl HR9.out Tryz.underlying81 rfl (by rw[yam];simp[HZ72.out]) (.int .i64 (T1.err)) rfl) rfl ⟨(by rw[HNR.out];exact⟨T1.err,heb,(by show _=Ending.returned (.tuple #[.agg Tx.none.cells.toArray,.int .i64 (T1.err)]);rw[HZe.out])⟩),HB9.out⟩
theorem ygl (s:ByteArray)(w:World)(hs:s.size≤140737488351232):
 Calls Tryz.prog 45 #[.string s] w fun e w'=>ReadEnds (Tx.read s.data.toList) e∧Below w.heap.size w w':=by
 cases hL:Tx.listAll s.data.toList with
 | none=>exact yjt s w hs (fun L h=>by rw[hL]at h;cases h)
 | some L=>
   by_cases h2:L.length=2
   · exact yjt s w hs (fun K h=>by rw[hL]at h;cases h;exact h2)
   by_cases h3:L.length=3
   · exact ypq s w hs (fun K h=>by rw[hL]at h;cases h;exact h3)
   exact ypp s w hs (fun K h=>by rw[hL]at h;cases h;exact⟨h2,h3⟩)
end Go.Proofs.YtalfnadejpmjnaaGreatDoor
