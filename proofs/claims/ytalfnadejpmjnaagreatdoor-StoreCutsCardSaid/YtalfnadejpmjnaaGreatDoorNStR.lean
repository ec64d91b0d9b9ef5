/- A part. -/
import Derived.Test.YtalfnadejpmjnaaGreatDoorNOrRread
import Derived.Test.YtalfnadejpmjnaaGreatDoorNStB
set_option linter.unusedVariables false
set_option linter.unusedSimpArgs false
set_option maxRecDepth 100000
set_option maxHeartbeats 25600000
namespace Go.Proofs.YtalfnadejpmjnaaGreatDoor
section
open Go.RowKit
def SlCt (w:World)(B:Nat)(A:Option Addr)(c:Nat)(l:List Ct):Prop:=(l≠[]→∃g off,A=some ⟨g,off,none⟩∧g<B∧∀i (h:i<l.length),w.rangeAt g (off+i*4) l[i].cells)∧(A=none→l=[]∧c=0)∧l.length≤c∧l.length≤1000000
theorem SlCt.below {w w':World}{B:Nat}{A:Option Addr}{c:Nat}{l:List Ct}(h:SlCt w B A c l)(hb:Below B w w'):SlCt w' B A c l:=
 ⟨fun h0=>by
  obtain⟨g,off,e,hg,hat⟩:=h.1 h0
  exact⟨g,off,e,hg,fun i hi q u hu=>(hb.cell (p:=⟨g,off+i*4+q,none⟩) hg).trans (hat i hi q u hu)⟩,h.2⟩
theorem SlCt.mono {w:World}{B B':Nat}{A:Option Addr}{c:Nat}{l:List Ct}(h:SlCt w B A c l)(hB:B≤B'):SlCt w B' A c l:=
 ⟨fun h0=>by
  obtain⟨g,off,e,hg,hat⟩:=h.1 h0
  exact⟨g,off,e,by omega,hat⟩,h.2⟩
theorem yog {l:List Ct} :∀u∈Rw.flat Ct.cells l,u.oneCell'=true:=fun u hu=>by
 obtain⟨y,hy,hyu⟩:=List.mem_flatMap.1 hu
 exact Ct.one y u hyu
theorem yic {w:World}{g:Nat} :∀(l:List Ct) (off:Nat),(∀i (h:i<l.length),w.rangeAt g (off+i*4) l[i].cells)→(∀y∈l,y.cells.length=4)→w.rangeAt g off (Rw.flat Ct.cells l)
 | [],off,_,_=>fun j v hv=>by simp[Rw.flat]at hv
 | x::r,off,h,hl=>fun j v hv=>by
   have hc:=hl x (by simp)
   have hv:(x.cells++Rw.flat Ct.cells r)[j]? = some v:=hv
   by_cases hj:j<4
   · rw[List.getElem?_append_left (by omega)]at hv
     have:=h 0 (by simp) j v hv
     rwa[Nat.zero_mul,Nat.add_zero]at this
   · rw[List.getElem?_append_right (by omega),hc]at hv
     have:=yic r (off+4) (fun i hi=>by
      have:=h (i+1) (by simpa using hi)
      rw[show off+4+i*4=off+(i+1)*4 by omega]
      simpa using this) (fun y hy=>hl y (by simp[hy])) (j-4) v hv
     rwa[show off+4+(j-4)=off+j by omega]at this
theorem yok:(Tryz.prog.info? 52).map (fun i=>(i.zero,i.size,i.bytes))=some (some (.agg Ct.zero.cells.toArray),4,32):=by kernel_rfl
theorem yim {ops:Array Oper}{rest:List Oper}{o2:Oper}{a:Act}{w:World}{Q:Exit→Act→World→Prop}(hg2:o2.guard=none)(sl y:Operand)
 (ho2:o2.op=.call { callee:=.builtin .append,args:=#[sl,y],argTypes:=#[30,30] })
 (t2:List Ct) (A2:Option Addr) (c2:Nat) (hin:SlCt w w.heap.size A2 c2 t2) (base:Nat) (v:Value) (l:List Ct) (hown:OwnL w base 52 4 Ct.cells v l) (hbase:base≤w.heap.size) (hlen:l.length≤1000000)
 (hs:a.eval sl=v) (hy:a.eval y=.slice A2 t2.length c2)
 (K :∀v' w',OwnL w' base 52 4 Ct.cells v' (l++t2)→Chg (fun k=>v.ownBlock=some k) w w'→(∀k,v'.ownBlock=some k→v.ownBlock=some k∨w.heap.size≤k)→wpList Tryz.prog ops Q rest (a.put o2.dst v') w'):
 wpList Tryz.prog ops Q (o2::rest) a w:=by
 obtain⟨i0,hi,h2⟩:=Option.map_eq_some_iff.1 yok
 simp only[Prod.mk.injEq]at h2
 obtain⟨hz,hsz,hby⟩:=h2
 have hz4:Ct.zero.cells.length=4:=rfl
 by_cases h0:t2=[]
 · subst h0
   obtain⟨A,c,rfl,hlc,_⟩:=hown.form
   refine wpList_plain hg2 fun _ hK=>?_
   have hr:=fun ty=>run_append_nothing (P:=Tryz.prog) w 30 30 ty 52 i0 Tryz.underlying30 hi A l.length c hlc (.slice A2 0 c2) (by
    cases A2 with
    | none=>exact Src.ofNil w Tryz.underlying30 c2
    | some q=>exact Src.ofSlice w Tryz.underlying30 q 0 c2 [] (by simp) (by simp) (by simp))
   unfold Oper.wp execOp
   simp only[ho2,resolve,invoke,builtin,Sem.run_bind,Sem.run_pure,Result.andThen_ok,List.map_toArray,List.map_cons,List.map_nil,hs,hy,List.length_nil,hr]
   exact hK _ _ (K _ _ (by rw[List.append_nil];exact hown) (Chg.refl _ _) (fun k hk=>.inl hk))
 · obtain⟨g,off,e,hg,hat⟩:=hin.1 h0
   subst e
   have hl4 :∀y∈t2,y.cells.length=4:=fun y hy=>rfl
   have hpos:0<t2.length:=List.length_pos_iff.2 h0
   have hlen2:=hin.2.2.2
   refine ycn hg2 sl y 30 ho2 base 52 i0 (.agg Ct.zero.cells.toArray) 4 32 Tryz.underlying30 hi hz hsz hby (by simpa[Value.cells] using hz4) (by decide) v l.length (Rw.flat Ct.cells l) hs hown.own ⟨g,off,none⟩ t2.length c2 (Rw.flat Ct.cells t2) hy (Rw.ye5 hl4) (fun j u hu=>?_) yog hpos (by unfold maxLen;omega) (by omega) hbase (fun v' w' ho hg hat=>K v' w' ⟨by rw[Rw.yej,List.length_append];exact ho⟩ ?_ ?_)
   · have e:(⟨g,off,none⟩:Addr).add j=⟨g,off+j,none⟩:=by unfold Addr.add;split <;> simp_all
     rw[e]
     exact yic t2 off hat hl4 j u hu
   · exact Chg.yat (S:=fun k=>v.ownBlock=some k) hg (fun k hk=>.inl hk)
   · intro k hk
     rcases hat with q|q
     · exact .inl (q ▸ hk)
     · rw[q]at hk
       cases hk
       exact .inr (Nat.le_refl _)
theorem yl2 (A:Option Addr)(c:Nat)(l:List Ct)(w:World)(hin:SlCt w w.heap.size A c l):
 Calls Tryz.prog 40 #[.slice A l.length c] w fun e w'=>(∃v,e=.returned v∧OwnL w' w.heap.size 52 4 Ct.cells v l)∧Below w.heap.size w w':=by
 cases A with
 | none=>
   obtain⟨rfl,rfl⟩:=hin.2.1 rfl
   clear hin
   have heq:=fun W:World=>Lib.run_eql_slice_nil (P:=Tryz.prog) W 30 52 none 0 0 0 0 Tryz.underlying30
   go_enter Tryz.func40,Tryz.ntmps40
   go_wp2_with fail
   go_ret
   exact⟨⟨_,rfl,OwnL.nil _ _ _ _ _⟩,Below.refl _ _⟩
 | some a=>
   have hown0:OwnL (w.alloc (.cells #[] 52)) w.heap.size 52 4 Ct.cells (.slice (some ⟨w.heap.size,0,none⟩) 0 0) []:=⟨rfl,.inr ⟨w.heap.size,0,#[],rfl,Nat.le_refl _,heap_alloc_new _ _,Nat.le_refl _,Nat.zero_le _,rfl,rfl⟩⟩
   have hb0:=(Below.refl w.heap.size w).alloc (Nat.le_refl _) (.cells #[] 52)
   have HO0:=yh hown0
   have Hb0:=yh hb0
   have HS0:=yh ((hin.below hb0).mono hb0.size)
   obtain⟨n,hn⟩:=yx (l.length)
   have HM:=yh hn
   rw[hn]
   have heq:=fun W:World=>Lib.run_eql_slice_nil (P:=Tryz.prog) W 30 52 (some a) n c 0 0 Tryz.underlying30
   clear hin hown0 hb0 hn
   go_enter Tryz.func40,Tryz.ntmps40
   go_wp2_with (first
    | ((with_reducible show wpList _ _ _ (⟨_, .call { callee := .builtin .append, args := #[.tmp 5, .tmp 6], argTypes := _ }, _, _, _, _⟩ :: _) _ _)
       refine yim rfl (.tmp 5) (.tmp 6) rfl l (some a) c HS0.out w.heap.size _ [] HO0.out Hb0.out.size (by simp) rfl (by rw[HM.out];rfl) ?_
       intro v9 w9 ho9 hc9 hk9
       have HO9:=yh ho9
       have HB9:=yh (ybt Hb0.out hc9 Hb0.out.size (fun k hk=>by cases hk;exact Nat.le_refl _))
       clear ho9 hc9 hk9))
   go_ret
   exact⟨⟨_,rfl,HO9.out⟩,HB9.out⟩
theorem OwnL.slC20 {w:World}{base:Nat}{u:Value}{l:List Ct}(h:OwnL w base CtT 4 Ct.cells u l)(hl:l.length≤1000000) :∃A c,u=.slice A l.length c∧SlCt w w.heap.size A c l:=by
 obtain⟨A,c,rfl,hc,_⟩:=h.form
 refine⟨A,c,rfl,fun h0=>?_,fun e=>?_,hc,hl⟩
 · obtain⟨g,c',hge,_,hgl⟩:=h.ne h0
   injection hge with ea eb ec
   subst ea
   subst ec
   exact⟨g,0,rfl,hgl,fun i hi=>by rw[Nat.zero_add];exact h.at (Ct.lens l) i hi⟩
 · subst e
   rcases h.own.2 with⟨e3,hn⟩|⟨g,cap,cur,e3,_⟩
   · injection e3 with e1 e2 e3
     exact⟨List.length_eq_zero_iff.1 hn,e3⟩
   · injection e3 with e1 e2 e3
     cases e1
section
variable {w0 W W' : World} {p q B g : Nat} {S : Nat → Prop} {v dv cv : Value} {l l' : List Jn.Fl} {r rel : Int} {brk : Bool} {j : Jn.Jr.J} {rs : List Rp} {cs : List Ct} {rows : Rws}
theorem StAt.cutsC (h:StAt w0 W p q B g S v dv cv l r j rs cs (StC q B cv rel brk) rows)(hl:cs.length≤1000000):Calls Tryz.prog 16 #[.pointer (some ⟨p,0,none⟩)] W fun e w'=>(∃u,e=.returned u∧OwnL w' W.heap.size CtT 4 Ct.cells u cs)∧Below W.heap.size W w':=by
 obtain⟨A,c,rfl,hs⟩:=h.ct.slC20 hl
 have HC:=yh (yl2 A c cs W hs)
 obtain⟨c0,c1,c2,c3,c4⟩:=h.cells5
 clear h hs hl c0 c1 c3 c4
 obtain⟨n,hn⟩:=yx (cs.length)
 rw[hn]at HC c2
 clear hn
 go_enter Tryz.func16,Tryz.ntmps16
 go_wp2_with fail
 refine HC.out.mono ?_
 rintro _ w1 ⟨⟨u,rfl,ho⟩,hb⟩
 have HO:=yh ho
 have HB:=yh hb
 clear ho hb HC
 go_wp2_with fail
 go_ret
 exact⟨⟨_,rfl,HO.out⟩,HB.out⟩
theorem StAt.fromC (h:StAt w0 W p q B g S v dv cv l r j rs cs (StC q B cv rel brk) rows)(i:Int):Calls Tryz.prog 14 #[.pointer (some ⟨p,0,none⟩),.int .i64 i] W fun e w'=>(∃u,e=.returned u∧OwnL w' W.heap.size 64 68 Rp.cells u (rs.drop (Od.lo rs.length i)))∧Below W.heap.size W w':=by
 have HC:=yh (h.lg.from i)
 obtain⟨c0,c1,c2,c3,c4⟩:=h.cells5
 clear h c0 c2 c3 c4
 go_enter Tryz.func14,Tryz.ntmps14
 go_wp2_with fail
 refine HC.out.mono ?_
 rintro _ w1 ⟨⟨u,rfl,ho⟩,hb⟩
 have HO:=yh ho
 have HB:=yh hb
 clear ho hb HC
 go_wp2_with fail
 go_ret
 exact⟨⟨_,rfl,HO.out⟩,HB.out⟩
end
end
section
open Go.RowKit
def Od.rtake (rs:List Rp)(k:Nat):Nat:=(rs.take k).countP (fun r=>decide (r.kind=2))
theorem Od.yhu {rs:List Rp}{k:Nat}(h:k<rs.length):Od.rtake rs (k+1)=Od.rtake rs k+if rs[k].kind=2 then 1 else 0:=by
 unfold Od.rtake
 rw[←List.take_append_getElem h,List.countP_append,List.countP_singleton]
 simp
theorem Od.yir (rs:List Rp)(k:Nat):Od.rtake rs k≤k:=by
 have:=List.countP_le_length (p:=fun r:Rp=>decide (r.kind=2)) (l:=rs.take k)
 rw[List.length_take]at this
 unfold Od.rtake
 omega
def Od.most (n:Nat)(m:Int):Nat:=if m<0 then 0 else if m<(n:Int) then m.toNat else n
theorem yht (rs:List Rp)(A:Option Addr)(c:Nat)(m:Int)(w:World)(h:SlR w w.heap.size A c rs):
 Calls Tryz.prog 21 #[.slice A rs.length c,.int .i64 m] w fun e w'=>e=.returned (.int .i64 (Od.rtake rs (Od.most rs.length m)))∧w=w':=by
 have H1:=yh h
 have hl6:rs.length≤1000000:=h.2.2.2.1
 obtain⟨n,hn⟩:=yx (rs.length)
 rw[hn]at hl6 ⊢
 have HN:=yh hn
 have HM:Hid (∀k,k≤n→((k:Int)≤m∨k=0)→(¬k<n∨¬(k:Int)<m)→Od.most n m=k):=yh (fun k h1 h2 h3=>by
  unfold Od.most
  by_cases q1:m<0
  · rw[if_pos q1];omega
  · rw[if_neg q1]
    by_cases q2:m<(n:Int)
    · rw[if_pos q2];omega
    · rw[if_neg q2];omega)
 clear h hn
 go_enter Tryz.func21,Tryz.ntmps21
 go_wp2_with fail
 go_loopw [5,6] (fun s5 s6 wr =>∃k:Nat,k≤n∧((k:Int)≤m∨k=0)∧s5=.int .i64 (Od.rtake rs k)∧s6=.int .i64 k∧w=wr) (fun _ i _=>n-(intOf i).toNat)
 case atStart=>exact⟨0,Nat.zero_le _,.inr rfl,rfl,rfl,rfl⟩
 case round=>
  obtain⟨k,hk,hkm,rfl,rfl,rfl⟩:=hrel
  have hk0:(0:Int)≤(k:Int):=by omega
  have hle:=Od.yir rs k
  by_cases hkn:k<n
  · have hki:(k:Int)<(n:Int):=by omega
    by_cases hm:(k:Int)<m
    · have hkl:k<rs.length:=by rw[HN.out];exact hkn
      have dm:decide ((k:Int)<m)=true:=decide_eq_true hm
      obtain⟨g,off,rfl,hg,hat⟩:=H1.out.1 (by intro e;rw[e]at hkl;simp at hkl)
      have hf:=H1.out.2.2.2.2 _ (List.getElem_mem hkl)
      have c1:=(Rp.at hf.prev (hat k hkl)).2.1
      have hnx:=Od.yhu hkl
      have HNx:=yh hnx
      generalize rs[k].kind=kd at *
      by_cases h2:kd=2
      · subst h2
        rw[if_pos rfl]at HNx
        have ew:IntKind.i64.wrap ((Od.rtake rs k:Nat)+1:Int)=((Od.rtake rs k:Nat):Int)+1:=IntWalk.i64_in _ (by omega)
        clear hf hat hnx hkm hkl
        go_wp2_with fail
        exact⟨⟨k+1,by omega,by omega,by rw[HNx.out];go_num,by go_num,by first|rfl|trivial⟩,by simp[intOf];omega⟩
      · rw[if_neg h2]at HNx
        have d2:decide (kd=2)=false:=decide_eq_false h2
        have d2b:(kd == 2)=false:=by simpa using h2
        have d2p:(kd=2)=False:=by simpa using h2
        clear hf hat hnx hkm hkl h2
        go_wp2_with fail
        exact⟨⟨k+1,by omega,by omega,by rw[HNx.out];rfl,by go_num,by first|rfl|trivial⟩,by simp[intOf];omega⟩
    · have dm:decide ((k:Int)<m)=false:=decide_eq_false hm
      have HE:=yh (HM.out k hk hkm (.inr (by omega)))
      go_wp2_with fail
      go_ret
      exact⟨by rw[HE.out];rfl,rfl⟩
  · have hki :¬(k:Int)<(n:Int):=by omega
    have HE:=yh (HM.out k hk hkm (.inl (by omega)))
    go_wp2_with fail
    go_ret
    exact⟨by rw[HE.out];rfl,rfl⟩
theorem Od.Good.nobody {rs:List Rp}(h:Od.Good rs)(k:Nat)(hk:k<rs.length):Od.by_ rs[k] = -1↔rs[k].kind=2:=by
 have ht:=h.took k hk
 have ha:=Od.ydl ht.asks
 have hok:=ht.rok
 rw[Rp.ydg]at hok
 unfold Od.by_
 constructor
 · intro hb
   rcases hok.1 with q|q
   · have:=ha.2.1 q;omega
   · exact q
 · intro q
   exact ha.2.2 (by omega)
theorem Od.ymg {rs:List Rp}(h:Od.Good rs)(m:Int) :∀k,k≤rs.length→Od.lt (Od.del (rs.take k)) m=Od.rtake rs (min k (Od.most rs.length m))
 | 0,_=>by rw[Nat.zero_min];rfl
 | k+1,hk=>by
   have ih:=Od.ymg h m k (by omega)
   have hkl:k<rs.length:=by omega
   have hM:k<Od.most rs.length m↔(k:Int)<m:=by
    unfold Od.most
    split
    · omega
    · split <;> omega
   have hnb:=h.nobody k hkl
   have hix:=h.index k hkl
   have hnx:=Od.yhu hkl
   rw[←List.take_append_getElem hkl]
   by_cases hb:Od.by_ rs[k] = -1
   · rw[Od.ym3 hb,hix]
     unfold Od.lt at ih ⊢
     rw[List.countP_append,ih,List.countP_singleton]
     by_cases hm:(k:Int)<m
     · rw[Nat.min_eq_left (by have:=hM.2 hm;omega),Nat.min_eq_left (by have:=hM.2 hm;omega),hnx,if_pos (hnb.1 hb),if_pos (decide_eq_true hm)]
     · have hle:Od.most rs.length m≤k:=by have:=fun q=>hm (hM.1 q);exact Nat.not_lt.1 this
       rw[Nat.min_eq_right hle,Nat.min_eq_right (by omega),if_neg (by simpa using hm)]
       rfl
   · rw[Od.ym2 hb,ih]
     by_cases hm:(k:Int)<m
     · rw[Nat.min_eq_left (by have:=hM.2 hm;omega),Nat.min_eq_left (by have:=hM.2 hm;omega),hnx,if_neg (fun q=>hb (hnb.2 q))]
       rfl
     · have hle:Od.most rs.length m≤k:=by have:=fun q=>hm (hM.1 q);exact Nat.not_lt.1 this
       rw[Nat.min_eq_right hle,Nat.min_eq_right (by omega)]
theorem Od.ygf {rs:List Rp}(h:Od.Good rs)(m:Int):Od.taken rs m=Od.rtake rs (Od.most rs.length m):=by
 have:=Od.ymg h m rs.length (Nat.le_refl _)
 rw[List.take_length,Nat.min_eq_right (by unfold Od.most;split <;> (try split) <;> omega)]at this
 exact this
end
section
open Go.RowKit
theorem OwnL.slR20 {w:World}{base:Nat}{u:Value}{l:List Rp}(h:OwnL w base 64 68 Rp.cells u l)(hf :∀b∈l,b.Fits)(hl:l.length≤1000000) :∃A c,u=.slice A l.length c∧SlR w w.heap.size A c l:=by
 obtain⟨A,c,rfl,hc,_⟩:=h.form
 refine⟨A,c,rfl,fun h0=>?_,fun e=>?_,hc,hl,hf⟩
 · obtain⟨g,c',hge,_,hgl⟩:=h.ne h0
   injection hge with ea eb ec
   subst ea
   subst ec
   exact⟨g,0,rfl,hgl,fun i hi=>by rw[Nat.zero_add];exact h.at (Rp.lens hf) i hi⟩
 · subst e
   rcases h.own.2 with⟨e3,hn⟩|⟨g,cap,cur,e3,_⟩
   · injection e3 with e1 e2 e3
     exact⟨List.length_eq_zero_iff.1 hn,e3⟩
   · injection e3 with e1 e2 e3
     cases e1
theorem Od.Good.loads {rs:List Rp}(h:Od.Good rs)(k:Nat)(hk:k<rs.length):Od.fitsIn (rs.take k) rs[k]:=by
 obtain⟨who,hw⟩:=h k hk
 exact⟨by rw[hw],by rw[hw]⟩
theorem yk4 {α : Type}{l:List α}{k:Nat}(h:k<l.length):l.take k ++ [l[k]]=l.take (k+1):=List.take_append_getElem h
theorem ynq (l:List Rp)(hg:Od.Good l)(hl:l.length≤1000)(A:Option Addr)(c:Nat)(w:World)(hT:Tab w)(h:SlR w w.heap.size A c l):
 Calls Tryz.prog 66 #[.slice A l.length c] w fun e w' =>∃B,e=.returned (.pointer (some ⟨B,0,none⟩))∧(∃v dv,LogAt w' w.heap.size B v dv l)∧Below w.heap.size w w':=by
 have NW:=yh (yh6 w)
 have HT:Hid (∀W,Below w.heap.size w W→Tab W):=yh (fun W hW=>hT.below hW hT.pos)
 have HS:=yh h
 have HG:=yh hg
 have hzv:=ydz
 have HBt:Hid (Tryz.prog.built 64 []=some Rp.zero.cells.toArray):=yh Rp.yaz
 have HZ68:=yh (Rp.yao Rp.yal.prev Rp.yal.hash)
 have HZ1:=yh (Rp.yan Rp.yal.prev Rp.yal.hash)
 obtain⟨ZT,hZT⟩:=yx (Rp.zero.cells)
 rw[hZT]at hzv HBt HZ68 HZ1
 have HZT:=yh hZT
 clear hZT
 obtain⟨n,hn⟩:=yx (l.length)
 rw[hn]at hl ⊢
 have HN:=yh hn
 clear h hg hT hn HZT
 go_enter Tryz.func66,Tryz.ntmps66
 go_wp2_with fail
 refine NW.out.mono ?_
 rintro _ w1 ⟨rfl,hlg,hb1⟩
 have HL1:Hid (LogAt w1 w.heap.size w.heap.size (.slice none 0 0) (.slice none 0 0) (l.take 0)):=yh hlg
 have HB1:=yh hb1
 clear hlg hb1 NW
 obtain⟨B,hB⟩:=yx (w.heap.size)
 have HL1':Hid (LogAt w1 w.heap.size B (.slice none 0 0) (.slice none 0 0) (l.take 0)):=by rw[←hB];exact HL1
 rw[show (Value.pointer (some ⟨w.heap.size,0,none⟩))=.pointer (some ⟨B,0,none⟩) by rw[hB]]
 clear HL1 hB
 go_wp2_with fail
 go_loopw [9] (fun s9 wr =>∃k:Nat,k≤n∧s9=.int .i64 k∧(∃v dv,LogAt wr w.heap.size B v dv (l.take k))∧Below w.heap.size w wr) (fun i _=>n-(intOf i).toNat)
 case atStart=>exact⟨0,Nat.zero_le _,rfl,⟨_,_,HL1'.out⟩,HB1.out⟩
 case round=>
  obtain⟨k,hk,rfl,⟨v,dv,hlg⟩,hb⟩:=hrel
  have HL:=yh hlg
  have HB:=yh hb
  clear hlg hb HL1' HB1
  have hk0:(0:Int)≤(k:Int):=by omega
  by_cases hkn:k<n
  · have hki:(k:Int)<(n:Int):=by omega
    have hkl:k<l.length:=by rw[HN.out];exact hkn
    obtain⟨gA,oA,rfl,hgA,hat⟩:=HS.out.1 (by intro e;rw[e]at hkl;simp at hkl)
    have hf:=HS.out.2.2.2.2 _ (List.getElem_mem hkl)
    have HRg:Hid (∀W,Below w.heap.size w W→W.rangeAt gA (oA+k*68) l[k].cells):=yh (fun W hW=>fun r u hu=>(hW.cell (p:=⟨gA,oA+k*68+r,none⟩) hgA).trans (hat k hkl r u hu))
    have HC68:=yh (Rp.yao hf.prev hf.hash)
    have HC1:=yh (Rp.yan hf.prev hf.hash)
    have HLd:Hid (∀W,Below w.heap.size w W→LogAt W w.heap.size B v dv (l.take k)→Calls Tryz.prog 79 #[.pointer (some ⟨B,0,none⟩),.agg l[k].cells.toArray] W fun e w'=>e=.returned (.int .i64 0)∧LTo W w' w.heap.size B v dv (l.take k ++ [l[k]])):=yh (fun W hW h=>h.Load_yes l[k] hf (HT.out _ hW) (by rw[List.length_take];omega) (HG.out.loads k hkl))
    have HTk:=yh (yk4 hkl)
    generalize l[k].cells=C at *
    clear hgA hat hf
    go_wp2_with (first
     | ((with_reducible show wpList _ _ _ (⟨_,.load 64 (.tmp 11),_,_,_,_⟩::_) _ _);refine yac rfl 64 (.tmp 11) rfl gA (oA+k*68) (rfl) C _ ((HRg.out _ HB.out)) Tryz.underlying64 rfl (by rw[yaf,HC68.out]) ?_)
     | (
        with_reducible show wpList _ _ _ (⟨_,.store 64 (.tmp 5) _,_,_,_,_⟩::_) _ _
        refine yab rfl 64 (.tmp 5) (.tmp 12) rfl wr.heap.size 0 C ZT _ rfl rfl (Row.new wr 64 ZT) (by have:=HZ68.out;have:=HC68.out;omega) (by rw[yaf,HC68.out]) HC1.out ?_
        intro w3 hr hg
        rw[yad (HC68.out.trans HZ68.out.symm)]at hr
        have hbx:=below_own ((Below.refl wr.heap.size wr).alloc (Nat.le_refl _) (.cells ZT.toArray 64)) hg (fun k hk=>by cases hk;exact Nat.le_refl _)
        have HB3:=yh (yaa HB.out hbx)
        have HL3:=yh (HL.out.below hbx)
        have HR3:=yh hr
        clear hbx
        clear hr hg)
     | ((with_reducible show wpList _ _ _ (⟨_,.load 64 (.tmp 5),_,_,_,_⟩::_) _ _);refine yac rfl 64 (.tmp 5) rfl wr.heap.size 0 (rfl) C _ (yah HR3.out) Tryz.underlying64 rfl (by rw[yaf,HC68.out]) ?_))
    refine(HLd.out _ HB3.out HL3.out).mono ?_
    rintro _ w4 ⟨rfl,hlt⟩
    have HLT:=yh hlt
    clear hlt HLd
    go_wp2_with fail
    obtain⟨v4,dv4,q1,q2,q3⟩:=HLT.out
    exact⟨⟨k+1,by omega,by go_num,⟨v4,dv4,by rw[←HTk.out];exact q1⟩,ybt HB3.out q2 HB3.out.size (fun k hk=>(HL3.out.lt k hk).1)⟩,by simp[intOf];omega⟩
  · have hki :¬(k:Int)<(n:Int):=by omega
    have htk:l.take k=l:=List.take_of_length_le (by rw[HN.out];omega)
    rw[htk]at HL
    clear htk
    go_wp2_with fail
    go_ret
    exact⟨B,rfl,⟨v,dv,HL.out⟩,HB.out⟩
theorem Od.yry (rs:List Rp)(kind:Int)(body:ByteArray)(time:Int):(Od.addR rs kind body time).2=(Od.mk rs kind body time).2.2:=by
 unfold Od.addR
 split
 · next h=>exact h.symm
 · rfl
theorem Od.ytt {rs:List Rp}(h:Od.Good rs)(kind:Int)(body:ByteArray)(time:Int):(Od.addR rs kind body time).1.Fits:=by
 unfold Od.addR
 split
 · exact Od.yqm h kind body time
 · exact Rp.yal
theorem StAt.ask {w0 W:World}{p q B g:Nat}{S:Nat→Prop}{v dv cv:Value}{l:List Jn.Fl}{r:Int}{j:Jn.Jr.J}{rs:List Rp}{cs:List Ct}{rel:Int}{rows:Rws}(h:StAt w0 W p q B g S v dv cv l r j rs cs (StC q B cv rel false) rows)(hT:Tab w0)(hrl:rs.length<1000)(kind time:Int)(body:ByteArray)(hbs:body.size≤140737488351232):
 Calls Tryz.prog 32 #[.pointer (some ⟨p,0,none⟩),.int .i64 kind,.string body,.int .i64 time] W fun e w'=>e=.returned (.int .i64 (Od.mk rs kind body time).2.2)∧Below W.heap.size W w':=by
 have WR:=yh h.wrong
 have FR:=yh (h.lg.from 0)
 have elo:rs.drop (Od.lo rs.length 0)=rs:=by
  have:Od.lo rs.length 0=0:=by unfold Od.lo;rw[if_neg (by decide),if_pos (by omega)];rfl
  rw[this]
  rfl
 rw[elo]at FR
 have HG:=yh h.lg.good
 have HTW:=yh (hT.below h.low hT.pos)
 have HRl:=yh hrl
 have HBs:=yh hbs
 have HF:=yh (Od.ytt h.lg.good kind body time)
 have HCd:=yh (Od.yry rs kind body time)
 obtain⟨c0,c1,c2,c3,c4⟩:=h.cells5
 have hzv:=ydz
 have HBt:Hid (Tryz.prog.built 64 []=some Rp.zero.cells.toArray):=yh Rp.yaz
 have HZ68:=yh (Rp.yao Rp.yal.prev Rp.yal.hash)
 have HZ1:=yh (Rp.yan Rp.yal.prev Rp.yal.hash)
 obtain⟨ZT,hZT⟩:=yx (Rp.zero.cells)
 rw[hZT]at hzv HBt HZ68 HZ1
 have HZT:=yh hZT
 clear hZT
 clear h elo hT hrl hbs c0 c2 c3 c4 HZT
 go_enter Tryz.func32,Tryz.ntmps32
 go_wp2_with fail
 refine WR.out.mono ?_
 rintro _ _ ⟨rfl,rfl⟩
 clear WR
 go_wp2_with fail
 refine FR.out.mono ?_
 rintro _ w1 ⟨⟨u,rfl,ho⟩,hb1⟩
 obtain⟨A,c,rfl,hs1⟩:=ho.slR20 HG.out.fits (by have:=HRl.out;omega)
 have HB1:=yh hb1
 have RP:=yh (ynq rs HG.out (by have:=HRl.out;omega) A c w1 (HTW.out.below hb1 HTW.out.pos) hs1)
 clear ho hb1 hs1 FR c1
 go_wp2_with fail
 refine RP.out.mono ?_
 rintro _ w2 ⟨B2,rfl,⟨v2,dv2,hlg⟩,hb2⟩
 have HB2:=yh (yaa HB1.out hb2)
 have LA:=yh (hlg.add kind body time HBs.out (HTW.out.below HB2.out HTW.out.pos) HRl.out)
 have HLo:Hid (∀k,LS B2 v2 dv2 k→W.heap.size≤k):=yh (fun k hk=>Nat.le_trans HB1.out.size (hlg.lt k hk).1)
 have HFc:=yh (Rp.yao HF.out.prev HF.out.hash)
 have HF1:=yh (Rp.yan HF.out.prev HF.out.hash)
 generalize (Od.addR rs kind body time).1.cells=CR at *
 obtain⟨ee,hee⟩:=yx ((Od.addR rs kind body time).2)
 rw[hee]at LA HCd
 clear hlg hb2 RP hee
 go_wp2_with fail
 refine LA.out.mono ?_
 rintro _ w3 ⟨rfl,v3,dv3,_,q2,_⟩
 have HB3:=yh (ybt HB2.out q2 HB2.out.size HLo.out)
 clear q2 LA
 go_wp2_with (first
  | (
     with_reducible show wpList _ _ _ (⟨_,.store 64 (.tmp 10) _,_,_,_,_⟩::_) _ _
     refine yab rfl 64 (.tmp 10) (.tmp 28) rfl w3.heap.size 0 CR ZT _ rfl rfl (Row.new w3 64 ZT) (by have:=HZ68.out;have:=HFc.out;omega) (by rw[yaf,HFc.out]) HF1.out ?_
     intro w4 hr hg
     rw[yad (HFc.out.trans HZ68.out.symm)]at hr
     have hbx:=below_own ((Below.refl w3.heap.size w3).alloc (Nat.le_refl _) (.cells ZT.toArray 64)) hg (fun k hk=>by cases hk;exact Nat.le_refl _)
     have HB4:=yh (yaa HB3.out hbx)
     clear hbx
     clear hr hg))
 go_ret
 exact⟨by rw[←HCd.out];rfl,HB4.out⟩
end
section
open Go.RowKit
def recs (rs:List Rp)(cs:List Ct):List (List UInt8):=rs.map Rp.rcd++cs.map Ct.rcd
theorem OwnL.inL {w:World}{base:Nat}{v:Value}{L:List (List UInt8)}(h:OwnL w base 9 1 tc v L):Jn.InL w v L:=by
 obtain⟨A,c,rfl,_,_⟩:=h.form
 refine⟨A,c,rfl,fun hne=>?_⟩
 obtain⟨g,c',e,_,hgl⟩:=h.ne hne
 injection e with ea eb ec
 subst ea
 refine⟨g,rfl,hgl,fun i hi=>?_⟩
 have:=h.at (fun _ _=>rfl) i hi 0 (S L[i]) rfl
 rwa[Nat.mul_one,Nat.add_zero]at this
theorem ys3 {w:World}{base:Nat}{v:Value}{L:List (List UInt8)}{cs:List Ct}(h:OwnL w base 9 1 tc v L):OwnL w base 9 1 tc v (L++(cs.take 0).map Ct.rcd):=by
 rw[List.take_zero,List.map_nil,List.append_nil];exact h
theorem StAt.compact {w0 W:World}{p q B g:Nat}{S:Nat→Prop}{v dv cv:Value}{l:List Jn.Fl}{r:Int}{j:Jn.Jr.J}{rs:List Rp}{cs:List Ct}{rel:Int}{rows:Rws}(h:StAt w0 W p q B g S v dv cv l r j rs cs (StC q B cv rel false) rows)(hT:Tab w0)(hn :∀c∈cs,∀x∈c.nums,x≤9223372036854775807)(hcl:cs.length≤1000)(hje:(Jn.Jr.renewR l r j (recs rs cs)).2.2.2=0):
 Calls Tryz.prog 33 #[.pointer (some ⟨p,0,none⟩)] W fun e w'=>e=.returned (.int .i64 0)∧∃S',StAt w0 w' p q B g S' v dv cv (Jn.Jr.renewR l r j (recs rs cs)).1 (Jn.Jr.renewR l r j (recs rs cs)).2.1 (Jn.Jr.renewR l r j (recs rs cs)).2.2.1 rs cs (StC q B cv rs.length false) rows:=by
 obtain⟨Ac,cc,hcv,hcc,_⟩:=h.ct.form
 have HCv:=yh hcv
 have HA:=yh h
 have WR:=yh h.wrong
 have FR:=yh (h.lg.from 0)
 have elo:rs.drop (Od.lo rs.length 0)=rs:=by
  have:Od.lo rs.length 0=0:=by unfold Od.lo;rw[if_neg (by decide),if_pos (by omega)];rfl
  rw[this]
  rfl
 rw[elo]at FR
 have HG:=yh h.lg.good
 have hrl:=h.lg.len
 have HRl:=yh hrl
 have HT:Hid (∀W',Below W.heap.size W W'→Tab W'):=yh (fun W' hW=>(hT.below h.low hT.pos).below hW (hT.below h.low hT.pos).pos)
 have HCn:=yh hn
 have HCl:=yh hcl
 obtain⟨c0,c1,c2,c3,c4⟩:=h.cells5
 obtain⟨n,hnn⟩:=yx (rs.length)
 have HN:=yh hnn
 have hn1:n≤1000:=by omega
 obtain⟨m,hmm⟩:=yx (cs.length)
 have HM:=yh hmm
 have hm1:m≤1000:=by omega
 obtain⟨ad,had⟩:=yx ((Jn.Jr.renewR l r j (recs rs cs)))
 obtain⟨l2,r2,j2,je⟩:=ad
 rw[had]at hje ⊢
 simp only at hje ⊢
 subst hje
 have HAd:=yh had
 have hzv:=ydz
 have HBt:Hid (Tryz.prog.built 64 []=some Rp.zero.cells.toArray):=yh Rp.yaz
 have HZ68:=yh (Rp.yao Rp.yal.prev Rp.yal.hash)
 have HZ1:=yh (Rp.yan Rp.yal.prev Rp.yal.hash)
 obtain⟨ZT,hZT⟩:=yx (Rp.zero.cells)
 rw[hZT]at hzv HBt HZ68 HZ1
 have HZT:=yh hZT
 clear hZT
 have hzc:=yjb
 have HZ4:Hid (Ct.zero.cells.length=4):=yh rfl
 obtain⟨ZC,hZC⟩:=yx (Ct.zero.cells)
 rw[hZC]at hzc HZ4
 clear hZC h hT hn hcl hcv hcc elo hnn hmm had hrl c0 c2 c3 c4 HZT
 go_enter Tryz.func33,Tryz.ntmps33
 go_wp2_with fail
 refine WR.out.mono ?_
 rintro _ _ ⟨rfl,rfl⟩
 clear WR
 go_wp2_with fail
 refine FR.out.mono ?_
 rintro _ w1 ⟨⟨u,rfl,ho⟩,hb1⟩
 obtain⟨A,c,rfl,hs1⟩:=ho.slR20 HG.out.fits (by have:=HRl.out;omega)
 have HB1:=yh hb1
 have HS1:=yh hs1
 have HO1:Hid (OwnL w1 w1.heap.size 9 1 tc (.slice none 0 0) ((rs.take 0).map Rp.rcd)):=yh (OwnL.nil _ _ _ _ _)
 have HG1:Hid (W.heap.size≤w1.heap.size):=yh hb1.size
 rw[HN.out]
 clear ho hb1 hs1 FR c1
 go_wp2_with fail
 go_loopw [4,20] (fun s4 s20 wr =>∃k:Nat,k≤n∧s20=.int .i64 k∧OwnL wr w1.heap.size 9 1 tc s4 ((rs.take k).map Rp.rcd)∧Below w1.heap.size w1 wr) (fun _ i _=>n-(intOf i).toNat)
 case atStart=>exact⟨0,Nat.zero_le _,rfl,HO1.out,Below.refl _ _⟩
 case round=>
  obtain⟨k,hk,rfl,ho,hb⟩:=hrel
  have HO:=yh ho
  have HB:=yh hb
  clear ho hb HO1
  have hk0:(0:Int)≤(k:Int):=by omega
  by_cases hkn:k<n
  · have hki:(k:Int)<(n:Int):=by omega
    have hkl:k<rs.length:=by rw[HN.out];exact hkn
    obtain⟨gA,oA,rfl,hgA,hat⟩:=HS1.out.1 (by intro e;rw[e]at hkl;simp at hkl)
    have hf:=HG.out.fits _ (List.getElem_mem hkl)
    have HRg:Hid (∀W',Below w1.heap.size w1 W'→W'.rangeAt gA (oA+k*68) rs[k].cells):=yh (fun W' hW=>fun r u hu=>(hW.cell (p:=⟨gA,oA+k*68+r,none⟩) hgA).trans (hat k hkl r u hu))
    have HC68:=yh (Rp.yao hf.prev hf.hash)
    have HC1:=yh (Rp.yan hf.prev hf.hash)
    have LR:Hid (∀W',Below w1.heap.size w1 W'→Calls Tryz.prog 65 #[.agg rs[k].cells.toArray] W' fun e w'=>e=.returned (.string ⟨rs[k].rcd.toArray⟩)∧Below W'.heap.size W' w'):=yh (fun W' hW=>yec rs[k] hf W' (HT.out _ (yaa HB1.out hW)))
    have HTk:Hid ((rs.take (k+1)).map Rp.rcd=(rs.take k).map Rp.rcd ++ [rs[k].rcd]):=yh (by rw[←List.take_append_getElem hkl,List.map_append];rfl)
    have HLk:Hid (((rs.take k).map Rp.rcd).length≤100000):=yh (by rw[List.length_map,List.length_take];omega)
    generalize rs[k].cells=C at *
    generalize rs[k].rcd=RC at *
    generalize (rs.take k).map Rp.rcd=L1 at *
    clear hgA hat hf
    go_wp2_with (first
     | ((with_reducible show wpList _ _ _ (⟨_,.load 64 (.tmp 22),_,_,_,_⟩::_) _ _);refine yac rfl 64 (.tmp 22) rfl gA (oA+k*68) (rfl) C _ ((HRg.out _ HB.out)) Tryz.underlying64 rfl (by rw[yaf,HC68.out]) ?_)
     | (
        with_reducible show wpList _ _ _ (⟨_,.store 64 (.tmp 6) _,_,_,_,_⟩::_) _ _
        refine yab rfl 64 (.tmp 6) (.tmp 23) rfl wr.heap.size 0 C ZT _ rfl rfl (Row.new wr 64 ZT) (by have:=HZ68.out;have:=HC68.out;omega) (by rw[yaf,HC68.out]) HC1.out ?_
        intro w3 hr hg
        rw[yad (HC68.out.trans HZ68.out.symm)]at hr
        have hbx:=below_own ((Below.refl wr.heap.size wr).alloc (Nat.le_refl _) (.cells ZT.toArray 64)) hg (fun k hk=>by cases hk;exact Nat.le_refl _)
        have HB3:=yh (yaa HB.out hbx)
        have HO3:=yh (HO.out.below hbx)
        have HR3:=yh hr
        clear hbx
        clear hr hg)
     | ((with_reducible show wpList _ _ _ (⟨_,.load 64 (.tmp 6),_,_,_,_⟩::_) _ _);refine yac rfl 64 (.tmp 6) rfl wr.heap.size 0 (rfl) C _ (yah HR3.out) Tryz.underlying64 rfl (by rw[yaf,HC68.out]) ?_))
    refine(LR.out _ HB3.out).mono ?_
    rintro _ w4 ⟨rfl,hb4⟩
    have HO4:=yh ((HO3.out.below hb4).alloc (.cells #[.string ⟨RC.toArray⟩] 9))
    have hb5:=(Below.refl w4.heap.size w4).alloc (Nat.le_refl _) (.cells #[.string ⟨RC.toArray⟩] 9)
    have HB5:=yh (yaa (yaa HB3.out hb4) hb5)
    have HR5:Hid (Row (w4.alloc (.cells #[.string ⟨RC.toArray⟩] 9)) w4.heap.size 9 (tc RC)):=yh (Row.new w4 9 (tc RC))
    clear hb4 hb5 LR
    go_wp2_with (first
     | ((with_reducible show wpList _ _ _ (⟨_, .call { callee := .builtin .append, args := _, argTypes := _ }, _, _, _, _⟩ :: _) _ _)
        refine yed rfl (.tmp 24) (.tmp 27) rfl RC w4.heap.size HR5.out w1.heap.size _ L1 HO4.out HB5.out.size HLk.out rfl rfl (fun v' w' ho hc hq=>?_)
        have HO6:=yh ho
        have HB6:=yh (ybt HB5.out hc HB5.out.size (fun k hk=>(HO4.out.lt k hk).1))
        clear ho hc hq))
    exact⟨⟨k+1,by omega,by go_num,by rw[HTk.out];exact HO6.out,HB6.out⟩,by simp[intOf];omega⟩
  · have hki :¬(k:Int)<(n:Int):=by omega
    have htk:rs.take k=rs:=List.take_of_length_le (by rw[HN.out];omega)
    rw[htk]at HO
    have HBw:Hid (Below W.heap.size W wr):=yh (yaa HB1.out HB.out)
    have hAr:=HA.out.below HBw.out
    have hcv:=HCv.out
    obtain⟨c0,c1,c2,c3,c4⟩:=hAr.cells5
    rw[hcv,HM.out]at c2
    have HO0:=yh (ys3 (cs:=cs) HO.out)
    have HCs:Hid (∀W' i (hi:i<cs.length),Below w1.heap.size w1 W'→∃gC,Ac=some ⟨gC,0,none⟩∧W'.rangeAt gC (i*4) cs[i].cells):=yh (fun W' i hi hW=>by
     have hct:=(HA.out.below (yaa HB1.out hW)).ct
     rw[hcv]at hct
     obtain⟨g2,cx,hg2,_,_⟩:=hct.ne (by intro e;rw[e]at hi;simp at hi)
     injection hg2 with ga gb gc
     subst ga
     exact⟨g2,rfl,hct.at (Ct.lens cs) i hi⟩)
    clear htk HO hAr hcv c0 c1 c3 c4 hk hkn hk0
    have HBo:=HB
    clear HB HBw
    go_wp2_with fail
    clear hki c2
    generalize wr=wo at *
    go_loopw [4,35] (fun s4' s35 wr =>∃k:Nat,k≤m∧s35=.int .i64 k∧OwnL wr w1.heap.size 9 1 tc s4' (rs.map Rp.rcd++(cs.take k).map Ct.rcd)∧Below w1.heap.size w1 wr) (fun _ i _=>m-(intOf i).toNat)
    case atStart=>exact⟨0,Nat.zero_le _,rfl,HO0.out,HBo.out⟩
    case round=>
     obtain⟨i,hi,rfl,ho,hb⟩:=hrel
     have HO:=yh ho
     have HB:=yh hb
     clear ho hb HO0 HBo
     have hi0:(0:Int)≤(i:Int):=by omega
     by_cases him:i<m
     · have hii:(i:Int)<(m:Int):=by omega
       have hil:i<cs.length:=by rw[HM.out];exact him
       obtain⟨gC,rfl,_⟩:=HCs.out _ i hil HB.out
       have HRg:Hid (∀W',Below w1.heap.size w1 W'→W'.rangeAt gC (i*4) cs[i].cells):=yh (fun W' hW=>by
        obtain⟨g2,e,hr⟩:=HCs.out _ i hil hW
        cases e
        exact hr)
       have LC:Hid (∀W',Calls Tryz.prog 68 #[.agg cs[i].cells.toArray] W' fun e w'=>e=.returned (.string ⟨cs[i].rcd.toArray⟩)∧Below W'.heap.size W' w'):=yh (fun W'=>yh8 cs[i] (HCn.out _ (List.getElem_mem hil)) W')
       have HTk:Hid (rs.map Rp.rcd++(cs.take (i+1)).map Ct.rcd=(rs.map Rp.rcd++(cs.take i).map Ct.rcd) ++ [cs[i].rcd]):=yh (by rw[←List.take_append_getElem hil,List.map_append,List.append_assoc];rfl)
       have HLk:Hid ((rs.map Rp.rcd++(cs.take i).map Ct.rcd).length≤100000):=yh (by rw[List.length_append,List.length_map,List.length_map,List.length_take,HN.out];omega)
       have HC4:Hid (cs[i].cells.length=4):=yh rfl
       have HC1:=yh (Ct.one cs[i])
       generalize cs[i].cells=C at *
       generalize cs[i].rcd=RC at *
       generalize (rs.map Rp.rcd++(cs.take i).map Ct.rcd)=L1 at *
       go_wp2_with (first
        | ((with_reducible show wpList _ _ _ (⟨_,.load 52 (.tmp 37),_,_,_,_⟩::_) _ _);refine yac rfl 52 (.tmp 37) rfl gC (i*4) (rfl) C _ ((HRg.out _ HB.out)) Tryz.underlying52 rfl (by rw[yba,HC4.out]) ?_)
        | (
           with_reducible show wpList _ _ _ (⟨_,.store 52 (.tmp 8) _,_,_,_,_⟩::_) _ _
           refine yab rfl 52 (.tmp 8) (.tmp 38) rfl wr.heap.size 0 C ZC _ rfl rfl (Row.new wr 52 ZC) (by have:=HZ4.out;have:=HC4.out;omega) (by rw[yba,HC4.out]) HC1.out ?_
           intro w3 hr hg
           rw[yad (HC4.out.trans HZ4.out.symm)]at hr
           have hbx:=below_own ((Below.refl wr.heap.size wr).alloc (Nat.le_refl _) (.cells ZC.toArray 52)) hg (fun k hk=>by cases hk;exact Nat.le_refl _)
           have HB3:=yh (yaa HB.out hbx)
           have HO3:=yh (HO.out.below hbx)
           have HR3:=yh hr
           clear hbx
           clear hr hg)
        | ((with_reducible show wpList _ _ _ (⟨_,.load 52 (.tmp 8),_,_,_,_⟩::_) _ _);refine yac rfl 52 (.tmp 8) rfl wr.heap.size 0 (rfl) C _ (yah HR3.out) Tryz.underlying52 rfl (by rw[yba,HC4.out]) ?_))
       refine(LC.out _).mono ?_
       rintro _ w4 ⟨rfl,hb4⟩
       have HO4:=yh ((HO3.out.below hb4).alloc (.cells #[.string ⟨RC.toArray⟩] 9))
       have hb5:=(Below.refl w4.heap.size w4).alloc (Nat.le_refl _) (.cells #[.string ⟨RC.toArray⟩] 9)
       have HB5:=yh (yaa (yaa HB3.out hb4) hb5)
       have HR5:Hid (Row (w4.alloc (.cells #[.string ⟨RC.toArray⟩] 9)) w4.heap.size 9 (tc RC)):=yh (Row.new w4 9 (tc RC))
       clear hb4 hb5 LC
       go_wp2_with (first
        | ((with_reducible show wpList _ _ _ (⟨_, .call { callee := .builtin .append, args := _, argTypes := _ }, _, _, _, _⟩ :: _) _ _)
           refine yed rfl (.tmp 39) (.tmp 42) rfl RC w4.heap.size HR5.out w1.heap.size _ L1 HO4.out HB5.out.size HLk.out rfl rfl (fun v' w' ho hc hq=>?_)
           have HO6:=yh ho
           have HB6:=yh (ybt HB5.out hc HB5.out.size (fun k hk=>(HO4.out.lt k hk).1))
           clear ho hc hq))
       exact⟨⟨i+1,by omega,by go_num,by rw[HTk.out];exact HO6.out,HB6.out⟩,by simp[intOf];omega⟩
     · have hii :¬(i:Int)<(m:Int):=by omega
       have htk:cs.take i=cs:=List.take_of_length_le (by rw[HM.out];omega)
       rw[htk]at HO
       have HBw:Hid (Below W.heap.size W wr):=yh (yaa HB1.out HB.out)
       have HAr:=yh (HA.out.below HBw.out)
       obtain⟨c0,c1,c2,c3,c4⟩:=HAr.out.cells5
       have RN:Hid (∀sv,OwnL wr w1.heap.size 9 1 tc sv (recs rs cs)→Calls Tryz.prog 57 #[.pointer (some ⟨q,0,none⟩),sv] wr fun e w'=>e=.returned (.int .i64 0)∧Jn.JTo wr w' w0.heap.size S g q l2 r2 j2):=yh (fun sv ho=>by
        have:=Jn.yke HAr.out.jn sv (recs rs cs) ho.inL (by unfold recs;rw[List.length_append,List.length_map,List.length_map,HN.out,HM.out];omega)
        rw[HAd.out]at this
        exact this)
       clear htk him hi hi0 c1 c2 c3 c4 HCs
       go_wp2_with fail
       refine(RN.out _ HO.out).mono ?_
       rintro _ w5 ⟨rfl,hjt⟩
       obtain⟨S',hs'⟩:=HAr.out.jrn hjt
       have HA5:=yh hs'
       clear hjt hs' RN c0
       go_wp2_with fail
       refine HA5.out.safe_ok.mono ?_
       rintro _ w6 ⟨rfl,hs⟩
       have HA6:=yh hs
       clear hs
       go_wp2_with fail
       go_ret
       exact⟨rfl,S',HA6.out⟩
end
section
open Go.RowKit
theorem Od.ytj {rs:List Rp}{k:Nat}(h:k<rs.length)(who:Int):Od.cnt (rs.take (k+1)) who=Od.cnt (rs.take k) who+if Od.by_ rs[k]=who then 1 else 0:=by
 rw[←List.take_append_getElem h,Od.yje]
theorem yci (rs:List Rp)(A:Option Addr)(c:Nat)(who:Int)(hw:0≤who)(w:World)(h:SlR w w.heap.size A c rs):
 Calls Tryz.prog 23 #[.slice A rs.length c,.int .i64 who] w fun e w'=>e=.returned (.int .i64 (Od.cnt rs who))∧Below w.heap.size w w':=by
 have H1:=yh h
 have hl6:rs.length≤1000000:=h.2.2.2.1
 have hzx :∀W:World,(zeroValue 81).run Tryz.prog W=.ok (.agg Tx.none.cells.toArray) W:=yk2
 have HX72:=yh (Tx.yag Tx.yb1)
 have HX1:=yh (Tx.yan Tx.yb1)
 obtain⟨ZX,hZX⟩:=yx (Tx.none.cells)
 rw[hZX]at hzx HX72 HX1
 have HZX:=yh hZX
 obtain⟨n,hn⟩:=yx (rs.length)
 rw[hn]at hl6 ⊢
 have HN:=yh hn
 clear h hn hZX
 go_enter Tryz.func23,Tryz.ntmps23
 go_wp2_with fail
 go_loopw [5,6] (fun s5 s6 wr =>∃k:Nat,k≤n∧s5=.int .i64 (Od.cnt (rs.take k) who)∧s6=.int .i64 k∧Below w.heap.size w wr) (fun _ i _=>n-(intOf i).toNat)
 case atStart=>exact⟨0,Nat.zero_le _,rfl,rfl,Below.refl _ _⟩
 case round=>
  obtain⟨k,hk,rfl,rfl,hb⟩:=hrel
  have HB:=yh hb
  clear hb
  have hk0:(0:Int)≤(k:Int):=by omega
  by_cases hkn:k<n
  · have hki:(k:Int)<(n:Int):=by omega
    have hkl:k<rs.length:=by rw[HN.out];exact hkn
    obtain⟨g,off,rfl,hg,hat⟩:=H1.out.1 (by intro e;rw[e]at hkl;simp at hkl)
    have hf:=H1.out.2.2.2.2 _ (List.getElem_mem hkl)
    have hrg :∀W,Below w.heap.size w W→W.rangeAt g (off+k*68) rs[k].cells:=fun W hW q u hu=>(hW.cell (p:=⟨g,off+k*68+q,none⟩) hg).trans (hat k hkl q u hu)
    have c1:=(Rp.at hf.prev (hrg wr HB.out)).2.1
    have c3:=(Rp.at hf.prev (hrg wr HB.out)).2.2.2.1
    have hnx:=Od.ytj hkl who
    have hcl:Od.cnt (rs.take k) who≤1000000:=by have:=Od.yt5 (rs.take k) who;rw[List.length_take]at this;omega
    have HF:=yh hf.body
    generalize rs[k]=r at *
    clear hf hat hrg hkl
    by_cases h1:r.kind=1
    · have d1:decide (r.kind=1)=true:=decide_eq_true h1
      have d1b:(r.kind == 1)=true:=by simpa using h1
      have RD:=yh (ygl r.body wr HF.out)
      cases hr:Tx.read r.body.data.toList with
      | none=>
        have hby:Od.by_ r = -1:=by unfold Od.by_ Od.whose;rw[if_pos h1,hr]
        rw[hby,if_neg (by omega)]at hnx
        rw[hr]at RD
        have HNx:=yh hnx
        clear hnx hby hr
        rw[h1]at c1
        clear h1 d1 d1b
        go_wp2_with fail
        refine RD.out.mono ?_
        rintro _ w2 ⟨⟨en,hen,rfl⟩,hb2⟩
        have HB2:=yh (yaa HB.out hb2)
        have den:decide (en=0)=false:=decide_eq_false (by simpa using hen)
        have denb:(en == 0)=false:=by simpa using hen
        rw[show Tx.pairV (Tx.none,en)=.tuple #[.agg ZX.toArray,.int .i64 en] by rw[←HZX.out];rfl]
        clear hb2 hen RD
        go_wp2_with (first
         | (
            with_reducible show wpList _ _ _ (⟨_,.store 81 (.tmp 7) _,_,_,_,_⟩::_) _ _
            refine yab rfl 81 (.tmp 7) (.tmp 28) rfl w2.heap.size 0 ZX ZX _ rfl rfl (Row.new w2 81 ZX) (by have:=HX72.out;have:=HX72.out;omega) (by rw[yam,HX72.out]) HX1.out ?_
            intro w3 hr hg
            rw[yad (HX72.out.trans HX72.out.symm)]at hr
            have hbx:=below_own ((Below.refl w2.heap.size w2).alloc (Nat.le_refl _) (.cells ZX.toArray 81)) hg (fun k hk=>by cases hk;exact Nat.le_refl _)
            have HB3:=yh (yaa HB2.out hbx)
            skip
            clear hbx
            clear hr hg))
        exact⟨⟨k+1,by omega,by rw[HNx.out];rfl,by go_num,HB3.out⟩,by simp[intOf];omega⟩
      | some t=>
        have hby:Od.by_ r=t.frm:=by unfold Od.by_ Od.whose;rw[if_pos h1,hr]
        rw[hby]at hnx
        rw[hr]at RD
        have htk:=(Tx.ycv hr).1
        have HT72:=yh (Tx.yag htk)
        have HT1:=yh (Tx.yan htk)
        have HT0:Hid (∀{g:Nat}(W:World),Row W g 81 t.cells→W.cell? ⟨g,0,none⟩=some (.int .i64 t.frm)):=yh (fun W h=>by have:=ya3 h 0 (.int .i64 t.frm) rfl;exact this)
        have HRD:Hid (Calls Tryz.prog 45 #[.string r.body] wr fun e w'=>e=.returned (.tuple #[.agg t.cells.toArray,.int .i64 0])∧Below wr.heap.size wr w'):=RD
        have ew:IntKind.i64.wrap ((Od.cnt (rs.take k) who:Nat)+1:Int)=((Od.cnt (rs.take k) who:Nat):Int)+1:=IntWalk.i64_in _ (by omega)
        generalize t.cells=CT at *
        generalize t.frm=tf at *
        clear hby hr htk RD
        rw[h1]at c1
        clear h1 d1 d1b
        by_cases hq:tf=who
        · rw[if_pos hq]at hnx
          have HNx:=yh hnx
          have dq:decide (tf=who)=true:=decide_eq_true hq
          have dqb:(tf == who)=true:=by simpa using hq
          clear hnx
          go_wp2_with fail
          refine HRD.out.mono ?_
          rintro _ w2 ⟨rfl,hb2⟩
          have HB2:=yh (yaa HB.out hb2)
          clear hb2 HRD
          go_wp2_with (first
           | (
              with_reducible show wpList _ _ _ (⟨_,.store 81 (.tmp 7) _,_,_,_,_⟩::_) _ _
              refine yab rfl 81 (.tmp 7) (.tmp 28) rfl w2.heap.size 0 CT ZX _ rfl rfl (Row.new w2 81 ZX) (by have:=HX72.out;have:=HT72.out;omega) (by rw[yam,HT72.out]) HT1.out ?_
              intro w3 hr hg
              rw[yad (HT72.out.trans HX72.out.symm)]at hr
              have hbx:=below_own ((Below.refl w2.heap.size w2).alloc (Nat.le_refl _) (.cells ZX.toArray 81)) hg (fun k hk=>by cases hk;exact Nat.le_refl _)
              have HB3:=yh (yaa HB2.out hbx)
              have c0:=HT0.out _ hr
              clear hbx
              clear hr hg))
          exact⟨⟨k+1,by omega,by rw[HNx.out];first|rfl|go_num|simp,by go_num,HB3.out⟩,by simp[intOf];omega⟩
        · rw[if_neg hq]at hnx
          have HNx:=yh hnx
          have dq:decide (tf=who)=false:=decide_eq_false hq
          have dqb:(tf == who)=false:=by simpa using hq
          clear hnx
          go_wp2_with fail
          refine HRD.out.mono ?_
          rintro _ w2 ⟨rfl,hb2⟩
          have HB2:=yh (yaa HB.out hb2)
          clear hb2 HRD
          go_wp2_with (first
           | (
              with_reducible show wpList _ _ _ (⟨_,.store 81 (.tmp 7) _,_,_,_,_⟩::_) _ _
              refine yab rfl 81 (.tmp 7) (.tmp 28) rfl w2.heap.size 0 CT ZX _ rfl rfl (Row.new w2 81 ZX) (by have:=HX72.out;have:=HT72.out;omega) (by rw[yam,HT72.out]) HT1.out ?_
              intro w3 hr hg
              rw[yad (HT72.out.trans HX72.out.symm)]at hr
              have hbx:=below_own ((Below.refl w2.heap.size w2).alloc (Nat.le_refl _) (.cells ZX.toArray 81)) hg (fun k hk=>by cases hk;exact Nat.le_refl _)
              have HB3:=yh (yaa HB2.out hbx)
              have c0:=HT0.out _ hr
              clear hbx
              clear hr hg))
          exact⟨⟨k+1,by omega,by rw[HNx.out];rfl,by go_num,HB3.out⟩,by simp[intOf];omega⟩
    · have d1:decide (r.kind=1)=false:=decide_eq_false h1
      have d1b:(r.kind == 1)=false:=by simpa using h1
      have d1p:(r.kind=1)=False:=by simpa using h1
      have hby:Od.by_ r = -1:=by unfold Od.by_ Od.whose;rw[if_neg h1]
      rw[hby,if_neg (by omega)]at hnx
      have HNx:=yh hnx
      clear hnx hby h1
      go_wp2_with fail
      exact⟨⟨k+1,by omega,by rw[HNx.out];rfl,by go_num,HB.out⟩,by simp[intOf];omega⟩
  · have hki :¬(k:Int)<(n:Int):=by omega
    have hri:rs.take k=rs:=List.take_of_length_le (by rw[HN.out];omega)
    rw[hri]
    clear hri
    go_wp2_with fail
    go_ret
    exact⟨rfl,HB.out⟩
end
end Go.Proofs.YtalfnadejpmjnaaGreatDoor
