/- A part. -/
import Derived.Test.YtalfnadejpmjnaaGreatDoorNJrK
import Derived.ArgAppend
import Derived.Laws.CopyRow
set_option linter.unusedVariables false
set_option linter.unusedSimpArgs false
set_option maxRecDepth 100000
set_option maxHeartbeats 25600000
namespace Go.Proofs.YtalfnadejpmjnaaGreatDoor
section
open Go.RowKit
theorem yk8 (x n:Nat):((x:Int) / 2 ^ n)=((x / 2 ^ n:Nat):Int):=by simp
theorem ycz (x n:Nat)(w:World)(hx:x<4294967296)(h1:1≤n)(h2:n≤31):
 Calls Tryz.prog 166 #[.int .u32 x,.int .i64 n] w fun e w'=>e=.returned (.int .u32 (Sha.rot n x))∧∃m,w'=w.drewN m:=by
 have hn0:(0:Int)≤(n:Int):=by omega
 have hn1:(0:Int)≤32-(n:Int):=by omega
 have hw1:IntKind.i64.wrap (32-(n:Int))=32-(n:Int):=by rw[IntKind.wrap_i64];omega
 have ht:(32-(n:Int)).toNat=32-n:=by omega
 go_enter Tryz.func166,Tryz.ntmps166
 go_wp2_with fail
 go_quiet (fail)
 go_wp2_with fail
 go_ret
 have hr:=Sha.ybu n x h1 h2 hx
 have e:(((x:Int) / 2 ^ n+(x:Int)*2 ^ (32-n)%4294967296)%4294967296)=((Sha.rot n x:Nat):Int):=by
  have e1:(x:Int)*2 ^ (32-n)%4294967296=((x*2 ^ (32-n)%4294967296:Nat):Int):=by simp
  rw[yk8,e1]
  unfold Sha.rot at hr ⊢
  generalize x / 2 ^ n=A at *
  generalize x*2 ^ (32-n)%4294967296=B at *
  omega
 exact⟨by rw[e];rfl,nq,rfl⟩
theorem yjp (x a b c:Nat)(w:World)(hx:x<4294967296)(ha1:1≤a)(ha2:a≤31)(hb1:1≤b)(hb2:b≤31)(hc1:1≤c)(hc2:c≤31):
 Calls Tryz.prog 167 #[.int .u32 x,.int .i64 a,.int .i64 b,.int .i64 c] w fun e w'=>e=.returned (.int .u32 ((Sha.rot a x ^^^ Sha.rot b x ^^^ Sha.rot c x:Nat):Int))∧∃m,w'=w.drewN m:=by
 have hA:=Sha.ybu a x ha1 ha2 hx
 have hB:=Sha.ybu b x hb1 hb2 hx
 have hC:=Sha.ybu c x hc1 hc2 hx
 have x1:=xor32 hA hB
 have x2:=xor32 (Sha.ydc hA hB) hC
 go_enter Tryz.func167,Tryz.ntmps167
 go_wp2_with fail
 refine(ycz x a _ hx ha1 ha2).mono ?_
 rintro e w1 ⟨rfl,m1,rfl⟩
 go_wp2_with fail
 refine(ycz x b _ hx hb1 hb2).mono ?_
 rintro e w1 ⟨rfl,m2,rfl⟩
 go_wp2_with fail
 refine(ycz x c _ hx hc1 hc2).mono ?_
 rintro e w1 ⟨rfl,m3,rfl⟩
 go_wp2_with fail
 go_ret
 exact⟨rfl,_,rfl⟩
theorem yua (t:Nat)(ht:t<64):(Sha.kk.map fun (k:Nat)=>Value.int .u32 (k:Int))[t]'(by rw[List.length_map];exact ht)=Value.int .u32 (Sha.kk.getD t 0:Nat):=by
 have h:t<Sha.kk.length:=ht
 rw[List.getElem_map]
 simp[List.getD,h]
theorem yr6 (t:Nat)(w:World)(ht:t<64):
 Calls Tryz.prog 168 #[.int .i64 t] w fun e w'=>e=.returned (.int .u32 (Sha.kk.getD t 0:Nat))∧Below w.heap.size w w':=by
 have ht0:(0:Int)≤(t:Int):=by omega
 have ht1:(t:Int)<64:=by omega
 go_enter Tryz.func168,Tryz.ntmps168
 go_wp2_with fail
 go_ret
 refine⟨?_,(Below.refl _ _).alloc (Nat.le_refl _) _⟩
 exact congrArg Ending.returned (yua t ht)
end
section
open Go.RowKit
def Own1 (w:World)(base:Nat)(v:Value)(xs:List Value):Prop:=
 ∃g cap,v=.slice (some ⟨g,0,none⟩) xs.length cap∧base≤g∧g<w.heap.size∧xs.length≤cap∧cap≤maxLen∧
  (∀i,i<cap→(w.cell? ⟨g,i,none⟩).isSome=true∧w.frozen? ⟨g,i,none⟩=false)∧
  ∀i x,xs[i]? = some x→w.cell? ⟨g,i,none⟩=some x
theorem Own1.below {w w1:World}{base:Nat}{v:Value}{xs:List Value}(h:Own1 w base v xs)(hb:Below w.heap.size w w1):Own1 w1 base v xs:=by
 obtain⟨g,cap,rfl,hg,hgs,hn,hm,hw,hc⟩:=h
 refine⟨g,cap,rfl,hg,Nat.lt_of_lt_of_le hgs hb.size,hn,hm,fun i hi=>?_,fun i x hi=>?_⟩
 · rw[hb.cell (p:=⟨g,i,none⟩) hgs,hb.frozen (p:=⟨g,i,none⟩) hgs];exact hw i hi
 · rw[hb.cell (p:=⟨g,i,none⟩) hgs];exact hc i x hi
theorem Own1.mono {w:World}{base b2:Nat}{v:Value}{xs:List Value}(h:Own1 w base v xs)(hb:b2≤base):Own1 w b2 v xs:=by
 obtain⟨g,cap,h1,hg,h2⟩:=h
 exact⟨g,cap,h1,Nat.le_trans hb hg,h2⟩
theorem Own1.drew {w:World}{base:Nat}{v:Value}{xs:List Value}(h:Own1 w base v xs):Own1 w.drew base v xs:=h
theorem yhf (b:Nat) :∀(vs:List Value) (o:Nat) (w:World),(w.setCells b o vs).heap.size=w.heap.size
 | [],_,_=>rfl
 | v::r,o,w=>by rw[World.setCells,yhf b r];simp[World.setCell]
theorem add0 (b off i:Nat):(⟨b,off,none⟩:Addr).add i=⟨b,off+i,none⟩:=by unfold Addr.add;split <;> simp_all
theorem Own1.yqi {w:World}{base:Nat}{e:TypeId}{v:Value}{n:Nat}{xs:List Value}(h:w.ownsRow base e 1 v n xs)(hn:0<n):Own1 w base v xs:=by
 obtain⟨hl,⟨_,h0⟩|⟨g,cap,cur,rfl,hg,hh,hnc,hcm,hcs,htk⟩⟩:=h
 · omega
 · have hgs:g<w.heap.size:=by
    rcases Nat.lt_or_ge g w.heap.size with h1|h1
    · exact h1
    · rw[Array.getElem?_eq_none h1]at hh;cases hh
   refine⟨g,cap,by rw[hl,Nat.mul_one],hg,hgs,by omega,hcm,fun i hi=>⟨?_,?_⟩,fun i x hx=>?_⟩
   · rw[cell_of_row w g i cur e (0,0) hh,Array.getElem?_eq_getElem (by omega)];rfl
   · exact frozen_of_row w g i cur e hh
   · rw[cell_of_row w g i cur e (0,0) hh]
     rw[←htk,Nat.mul_one]at hx
     have hi:i<n:=by
      have:=(List.getElem?_eq_some_iff.1 hx).1
      rw[List.length_take]at this
      omega
     rw[List.getElem?_take,if_pos hi]at hx
     simpa using hx
theorem Own1.push {P:Program}{w:World}{base:Nat}{v:Value}{xs:List Value}(h:Own1 w base v xs)(t ty e:TypeId)(i:TypeInfo)(z:Value)(bytes:Nat)
 (ht:P.underlying t=some (.slice e)) (hi:P.info? e=some i) (hz:i.zero=some z) (hsize:i.size=1) (hby:i.bytes=bytes) (hzs:z.cells.size=1)
 (g2:Nat) (u:Value) (hu:w.cell? ⟨g2,0,none⟩=some u) (h1:u.oneCell'=true) (hbytes:(xs.length+1)*bytes≤140737488355328) (hlen:xs.length+1≤140737488355328) (hbase:base≤w.heap.size):
 ∃v' w',(Builtin.append_ #[t,t] ty #[v,.slice (some ⟨g2,0,none⟩) 1 1]).run P w=.ok v' w'∧Own1 w' base v' (xs ++ [u])∧Below base w w':=by
 obtain⟨g,cap,rfl,hg,hgs,hn,hm,hw,hc⟩:=h
 have hnews :∀j x,[u][j]? = some x→w.cell? ((⟨g2,0,none⟩:Addr).add j)=some x:=by
  intro j x hj
  have hl:j < [u].length:=(List.getElem?_eq_some_iff.1 hj).1
  have h2:j=0:=by simp at hl;omega
  subst h2
  rw[add0]
  have:u=x:=by simpa using hj
  rw[←this];exact hu
 by_cases hroom:xs.length+1≤cap
 · have hr:=run_append_room_cells (P:=P) w t ty e i ht hi g 0 xs.length cap ⟨g2,0,none⟩ 1 1 [u] (by rw[hsize];rfl) hnews (by simpa using h1) hroom
    (fun j hj => by rw [hsize]; have : j = 0 := by simp at hj; omega
                    subst this;simpa using (hw xs.length (by omega)).1)
    (fun j hj => by rw [hsize]; have : j = 0 := by simp at hj; omega
                    subst this;simpa using (hw xs.length (by omega)).2)
   rw[hsize]at hr
   simp only[Nat.mul_one,Nat.zero_add]at hr
   refine⟨_,_,hr,⟨g,cap,by rw[List.length_append];rfl,hg,by rw[yhf];exact hgs,by simpa using hroom,hm,fun j hj=>⟨?_,?_⟩,fun j x hj=>?_⟩,(Below.refl _ _).setCell hg _⟩
   · by_cases hjx:j=xs.length
     · subst hjx
       show ((w.setCell ⟨g,xs.length,none⟩ u).cell? ⟨g,xs.length,none⟩).isSome=true
       have := World.cell?_setCells_in g [u] xs.length w (fun k hk => by have : k = 0 := by simp at hk; omega
                                                                         subst this;simpa using (hw xs.length (by omega)).1) 0 (by simp)
       simp only[Nat.add_zero,World.setCells]at this
       rw[this];rfl
     · have:=World.cell?_setCells_out g [u] xs.length w ⟨g,j,none⟩ (fun _ _=>by simp;omega)
       rw[this]
       exact(hw j hj).1
   · rw[World.frozen?_setCells];exact(hw j hj).2
   · by_cases hjx:j<xs.length
     · rw[World.cell?_setCells_out g [u] xs.length w ⟨g,j,none⟩ (fun _ _=>Or.inl hjx)]
       rw[List.getElem?_append_left hjx]at hj
       exact hc j x hj
     · have hjl:j=xs.length:=by
        have:=(List.getElem?_eq_some_iff.1 hj).1
        simp at this
        omega
       subst hjl
       have e1 := World.cell?_setCells_in g [u] xs.length w (fun k hk => by have : k = 0 := by simp at hk; omega
                                                                            subst this;simpa using (hw xs.length (by omega)).1) 0 (by simp)
       simp only[Nat.add_zero]at e1
       rw[e1,←hj]
       simp
 · have holds :∀j x,xs[j]? = some x→w.cell? ((⟨g,0,none⟩:Addr).add j)=some x:=by
    intro j x hj
    rw[add0,Nat.zero_add]
    exact hc j x hj
   obtain⟨v',w',hr,hown,hgr⟩:=run_append_arg_grows (P:=P) w t ty e i z 1 bytes ht hi hz hsize hby hzs (by omega) ⟨g,0,none⟩ xs.length cap xs (by simp) holds ⟨g2,0,none⟩ 1 1 [u] rfl hnews (by omega) (by unfold maxLen;omega) hbytes
   exact⟨v',w',hr,(Own1.yqi hown (by omega)).mono hbase,(Below.refl base w).grown hgr hbase (fun g hg=>by cases hg)⟩
theorem yb2 {P:Program}(w:World){ops:Array Oper}{rest:List Oper}{o:Oper}{a:Act}{Q:Exit→Act→World→Prop}(hgd:o.guard=none)(s x:Operand)(t t':TypeId)
 (ho:o.op=.call { callee:=.builtin .append,args:=#[s,x],argTypes:=#[t,t'] }) (v u:Value) (hs:a.eval s=v) (hx:a.eval x=u) {v':Value}{w':World}
 (hr:(Builtin.append_ #[t,t'] o.type #[v,u]).run P w=.ok v' w') (h:wpList P ops Q rest (a.put o.dst v') w'):wpList P ops Q (o::rest) a w:=by
 refine wpList_plain hgd fun K hK=>?_
 unfold Oper.wp execOp
 simp only[ho,resolve,invoke,builtin,Sem.run_bind,Sem.run_pure,Result.andThen_ok,List.map_toArray,List.map_cons,List.map_nil,hs,hx,hr]
 exact hK _ _ h
end
section
open Go.RowKit
def u8s (l:List UInt8):List Value:=l.map fun (b:UInt8)=>Value.int .u8 (b.toNat:Int)
theorem ydo (l:List UInt8):(u8s l).length=l.length:=by simp[u8s]
theorem ysd (l:List UInt8)(b:UInt8):u8s (l ++ [b])=u8s l ++ [.int .u8 (b.toNat:Int)]:=by simp[u8s]
theorem ypb (l:List UInt8)(i:Nat)(h:i<l.length):(u8s l)[i]? = some (.int .u8 ((l.getD i 0).toNat:Int)):=by
 simp[u8s,h,List.getD]
theorem Own1.text {P:Program}{w:World}{base:Nat}{v:Value}{bs:List UInt8}(h:Own1 w base v (u8s bs))(src e:TypeId)(hs:P.underlying src=some (.slice e))(he:P.underlying e=some (.int .u8))
 (dst:TypeId) (hd:P.underlying dst=some .string):(convert src dst v).run P w=.ok (S bs) w:=by
 obtain⟨g,cap,rfl,hg,hgs,hn,hm,hw,hc⟩:=h
 rw[ydo]
 have hr:=run_convert_bytes_arg (P:=P) w src e hs he g 0 bs.length cap (bs.map fun b=>(b.toNat:Int)) (by simp) (fun i hi=>by
  rw[Nat.zero_add,hc i _ (ypb bs i hi)];simp[List.getD,hi]) dst hd
 rw[hr,ydk]
theorem Own1.byte {w:World}{base:Nat}{v:Value}{bs:List UInt8}(h:Own1 w base v (u8s bs))(b:UInt8)(x:Int)(hx:x=(b.toNat:Int))(hlen:bs.length+1≤140737488355328)(hbase:base≤w.heap.size):
 ∃v' w',(Builtin.append_ #[85,85] 85 #[v,.slice (some ⟨w.heap.size,0,none⟩) 1 1]).run Tryz.prog (w.alloc (.cells #[.int .u8 x] 5))=.ok v' w'∧Own1 w' base v' (u8s (bs ++ [b]))∧Below base w w':=by
 subst hx
 obtain⟨i0,hi,hz0,hz1,hz2⟩:=info_parts yip
 have hb1:Below w.heap.size w (w.alloc (.cells #[.int .u8 (b.toNat:Int)] 5)):=(Below.refl _ _).alloc (Nat.le_refl _) _
 obtain⟨v',w',h1,h2,h3⟩:=(h.below hb1).push (P:=Tryz.prog) 85 85 5 i0 _ 1 Tryz.underlying85 hi hz0 hz1 hz2 rfl w.heap.size (.int .u8 (b.toNat:Int)) ((Holds.new w _ _).cell 0) rfl (by rw[ydo];omega) (by rw[ydo];omega) (Nat.le_trans hbase hb1.size)
 refine⟨v',w',h1,?_,(hb1.mono hbase).trans h3⟩
 rw[ysd];exact h2
theorem Own1.empty (w:World)(T:TypeId):Own1 (w.alloc (.cells #[] T)) w.heap.size (.slice (some ⟨w.heap.size,0,none⟩) 0 0) (u8s []):=
 ⟨w.heap.size,0,rfl,Nat.le_refl _,by simp,Nat.le_refl _,by unfold maxLen;omega,fun i hi=>by omega,fun i x hx=>by simp[u8s]at hx⟩
theorem yks (h:List UInt8)(w:World)(hh:h.length=32):
 Calls Tryz.prog 137 #[.agg (bRow h)] w fun e w'=>e=.returned (S h)∧Below w.heap.size w w':=by
 have HH:=yh hh
 clear hh
 go_enter Tryz.func137,Tryz.ntmps137
 go_wp2_with fail
 have hd0 :∀k:Nat,k<32→(bRow h)[k]? = some (.int .u8 ((h.getD k 0).toNat:Int)):=by
  intro k hk
  rw[ycr h HH.out,yf8 h k (by rw[HH.out];exact hk)]
  congr 2
  simp[List.getD,show k<h.length by rw[HH.out];exact hk]
 have HD0:=yh hd0
 clear hd0
 have hcv :∀(W:World) (v:Value),Own1 W (w.heap.size+1) v (u8s h)→(convert 85 9 v).run Tryz.prog W=.ok (S h) W:=
  fun W v ho=>ho.text 85 5 Tryz.underlying85 Tryz.underlying5 9 Tryz.underlying9
 have HCV:=yh hcv
 clear hcv
 go_loopw [3,4] (fun v i wr =>∃k:Nat,k≤32∧i=.int .i64 k∧Own1 wr (w.heap.size+1) v (u8s (h.take k))∧Holds wr w.heap.size (bRow h)∧Below w.heap.size w wr) (fun _ i _=>32-(intOf i).toNat)
 case atStart=>
  refine⟨0,by omega,rfl,?_,?_,?_⟩
  · have e:(w.alloc (.cells (bRow h) 62)).heap.size=w.heap.size+1:=by simp
    have:=Own1.empty (w.alloc (.cells (bRow h) 62)) 5
    rw[e]at this
    exact this
  · exact(Holds.new _ _ _).alloc _
  · exact((Below.refl _ _).alloc (Nat.le_refl _) _).alloc (by simp) _
 case round=>
  obtain⟨k,hk,rfl,hown,hH,hb⟩:=hrel
  by_cases hlt:k<32
  · have hcell:=(hH.cell k).trans (HD0.out k hlt)
    have hp0:(0:Int)≤(k:Int):=by omega
    have hp1:(k:Int)<32:=by omega
    have hkl:(h.take k).length=k:=by rw[List.length_take,HH.out];omega
    obtain⟨v',w',hrun,hown',hb'⟩:=hown.byte (h.getD k 0) _ rfl (by rw[hkl];omega) hH.lt
    have hnext:h.take k ++ [h.getD k 0]=h.take (k+1):=by
     have hl:k<h.length:=by rw[HH.out];exact hlt
     rw[List.take_add_one,List.getElem?_eq_getElem hl]
     simp[List.getD,hl]
    rw[hnext]at hown'
    have hH2:Holds w' w.heap.size (bRow h):=hH.below hb' (by omega)
    have Hrun:=yh hrun
    have Hown:=yh hown'
    have HH2:=yh hH2
    clear hrun hown' hH2 hown hH hkl hnext
    go_wp2_with (at_builtin;refine yb2 _ rfl (.tmp 10) (.tmp 14) _ _ rfl _ _ rfl rfl Hrun.out ?_)
    exact⟨⟨k+1,by omega,by go_num,Hown.out,HH2.out,hb.trans (hb'.mono (by omega))⟩,by simp[intOf];omega⟩
  · have e:h.take k=h:=List.take_of_length_le (by rw[HH.out];omega)
    rw[e]at hown
    have hcv:=HCV.out wr _ hown
    clear hown hH
    go_wp2_with fail
    go_ret
    exact⟨rfl,hb⟩
end
section
open Go.RowKit
theorem yov (w:World)(e:TypeId)(s:ByteArray):Below w.heap.size w (Lib.bytesWorld w e s):=
 ⟨rfl,rfl,rfl,by rw[Lib.bytesWorld_size];omega,fun k hk=>Lib.bytesWorld_at_old w e s k hk⟩
theorem Own1.ygy (w:World)(e:TypeId)(s:ByteArray)(hs:s.size≤maxLen):
 Own1 (Lib.bytesWorld w e s) w.heap.size (.slice (some ⟨w.heap.size,0,none⟩) s.size (grownCap w s.size 0 e)) (u8s s.data.toList):=by
 have hge:=grownCap_ge w s.size 0 e
 have hl:s.data.toList.length=s.size:=rfl
 have hcs:(Lib.bytesCells w e s).size=grownCap w s.size 0 e:=by
  unfold Lib.bytesCells
  have:s.data.size=s.size:=rfl
  simp[this];omega
 refine⟨w.heap.size,_,by rw[ydo,hl],Nat.le_refl _,by rw[Lib.bytesWorld_size];omega,by rw[ydo,hl];exact hge,grownCap_le_maxLen w s.size 0 e hs,fun i hi=>⟨?_,?_⟩,fun i x hx=>?_⟩
 · have h1:=Lib.bytesWorld_at_new w e s
   have h2:i<(Lib.bytesCells w e s).size:=by omega
   simp[World.cell?,h1,h2]
 · have h1:=Lib.bytesWorld_at_new w e s
   simp[World.frozen?,h1]
   intro h;omega
 · have hi:i<s.data.toList.length:=by have:=(List.getElem?_eq_some_iff.1 hx).1;rw[ydo]at this;exact this
   rw[Lib.bytesWorld_cell w e s i hi,←hx,ypb _ i hi]
def vlen:Value→Nat
 | .slice _ n _=>n
 | _=>0
def zn (n:Nat):Nat:=(119-n%64)%64
theorem yt8 (n k:Nat)(hk:k≤zn n):(n+1+k)%64=56↔k=zn n:=by unfold zn at *;omega
theorem yq3 (n r:Nat)(h:r<8):(Sha.len8 n).take (8-(r+1)) ++ [UInt8.ofNat (n*8%18446744073709551616 / 2 ^ (8*r)%256)]=(Sha.len8 n).take (8-r):=by
 have:r=0∨r=1∨r=2∨r=3∨r=4∨r=5∨r=6∨r=7:=by omega
 rcases this with rfl|rfl|rfl|rfl|rfl|rfl|rfl|rfl <;> rfl
theorem yis (s:ByteArray)(w:World)(hs:s.size≤140737488355000):
 Calls Tryz.prog 165 #[.string s] w fun e w' =>∃v,e=.returned v∧Own1 w' w.heap.size v (u8s (Sha.pad s.data.toList))∧Below w.heap.size w w':=by
 have hl:s.data.toList.length=s.size:=rfl
 have hcv:=Lib.run_convert_string_bytes (P:=Tryz.prog) w 9 85 5 s Tryz.underlying9 Tryz.underlying85 Tryz.underlying5
 have ho:=Own1.ygy w 5 s (by unfold maxLen;omega)
 have hb0:=yov w 5 s
 generalize Lib.bytesWorld w 5 s=w0 at *
 generalize grownCap w s.size 0 5=cap at *
 obtain⟨v1,w1,hrun,ho1,hb1⟩:=ho.byte 128 128 rfl (by rw[hl];omega) hb0.size
 have hb1:=hb0.trans hb1
 have Hrun:=yh hrun
 have Ho1:=yh ho1
 have HL:=yh hl
 clear ho hrun ho1 hl hb0
 go_enter Tryz.func165,Tryz.ntmps165
 go_wp2_with (at_builtin;refine yb2 _ rfl (.tmp 8) (.tmp 9) _ _ rfl _ _ rfl rfl Hrun.out ?_)
 obtain⟨l,hll⟩ :∃l,l=s.data.toList:=⟨_,rfl⟩
 have HL2:=HL.out
 have ho1:=Ho1.out
 rw[←hll]at HL2 ho1
 have HLL:=yh hll
 have HL3:=yh HL2
 clear Hrun hcv HL HL2 hll Ho1
 go_loopw [3] (fun v wr =>∃k:Nat,k≤zn s.size∧Own1 wr w.heap.size v (u8s (l++128::zs k))∧Below w.heap.size w wr) (fun v _=>s.size+70-vlen v)
 case atStart=>exact⟨0,by omega,ho1,hb1⟩
 case round=>
  clear ho1 hb1
  obtain⟨k,hk,hown,hb⟩:=hrel
  have hlen:(l++128::zs k).length=s.size+1+k:=by simp[yf7,HL3.out];omega
  obtain⟨g,c,hg,_⟩:=id hown
  rw[ydo,hlen]at hg
  subst hg
  have hz:=yt8 s.size k hk
  have hzn:zn s.size≤63:=by unfold zn;omega
  by_cases hlt:k<zn s.size
  · have ht2:(((s.size:Int)+1+(k:Int))%64 != 56)=true:=by simp;omega
    obtain⟨v',w',hrun,hown',hb'⟩:=hown.byte 0 0 rfl (by rw[hlen];omega) hb.size
    rw[List.append_assoc,List.cons_append,←yo2]at hown'
    have Hrun:=yh hrun
    have Hown:=yh hown'
    clear hrun hown' hown hz
    go_wp2_with (at_builtin;refine yb2 _ rfl (.tmp 15) (.tmp 16) _ _ rfl _ _ rfl rfl Hrun.out ?_)
    have hlen2:(l++128::zs (k+1)).length=s.size+1+(k+1):=by simp[yf7,HL3.out];omega
    obtain⟨g2,c2,hg2,_⟩:=id Hown.out
    rw[ydo,hlen2]at hg2
    refine⟨⟨k+1,by omega,Hown.out,hb.trans hb'⟩,?_⟩
    show s.size+70-vlen v'<s.size+70-(s.size+1+k)
    rw[hg2]
    show s.size+70-(s.size+1+(k+1))<s.size+70-(s.size+1+k)
    omega
  · have ht2:(((s.size:Int)+1+(k:Int))%64 != 56)=false:=by simp;omega
    have EK:=yh (show k=zn s.size by omega)
    have Hown:=yh hown
    have hw1:IntKind.u64.wrap (s.size:Int)=(s.size:Int):=by rw[IntKind.wrap_u64];omega
    have hw2:IntKind.u64.wrap ((s.size:Int)*8)=(s.size:Int)*8:=by rw[IntKind.wrap_u64];omega
    clear hown hz
    go_wp2_with fail
    have Hown2:=yh (show Own1 wr w.heap.size (.slice (some ⟨g,0,none⟩) (s.size+1+k) c) (u8s ((l++128::zs (zn s.size))++(Sha.len8 s.size).take (8-8))) by rw[←EK.out,Nat.sub_self,List.take_zero,List.append_nil];exact Hown.out)
    clear Hown hw1 hw2 ht2
    go_loopw [3,5] (fun v i wr =>∃q:Nat,q≤8∧i=.int .i64 ((q:Int)-1)∧Own1 wr w.heap.size v (u8s ((l++128::zs (zn s.size))++(Sha.len8 s.size).take (8-q)))∧Below w.heap.size w wr) (fun _ i _=>(intOf i+1).toNat)
    case atStart=>exact⟨8,by omega,rfl,Hown2.out,hb⟩
    case round=>
     clear Hown2 hb
     obtain⟨q,hq,rfl,hown,hb⟩:=hrel
     match q,hq,hown with
     | 0,_,hown=>
       have Hown:=yh hown
       clear hown
       go_wp2_with fail
       go_ret
       refine⟨_,rfl,?_,hb⟩
       have e:(l++128::zs (zn s.size))++(Sha.len8 s.size).take (8-0)=Sha.pad s.data.toList:=by
        rw[List.take_of_length_le (by rw[Sha.yf1];omega),HLL.out]
        unfold Sha.pad zs zn
        have:s.data.toList.length=s.size:=rfl
        rw[this]
        simp
       have:=Hown.out
       rw[e]at this
       exact this
     | r+1,hq,hown=>
       have ei:(((r+1:Nat):Int)-1)=(r:Int):=by omega
       rw[ei]
       have hr0:(0:Int)≤(r:Int):=by omega
       have hr1:(0:Int)≤8*(r:Int):=by omega
       have hlen:(l++128::zs (zn s.size)++(Sha.len8 s.size).take (8-(r+1))).length≤s.size+100:=by
        simp only[List.length_append,List.length_cons,yf7,HL3.out,List.length_take,Sha.yf1];omega
       have hval:(s.size:Int)*8 / 2 ^ (8*r)%256=((UInt8.ofNat (s.size*8%18446744073709551616 / 2 ^ (8*r)%256)).toNat:Int):=by
        rw[UInt8.toNat_ofNat',Nat.mod_eq_of_lt (show s.size*8<18446744073709551616 by omega)]
        simp
       obtain⟨v',w',hrun,hown',hb'⟩:=hown.byte (UInt8.ofNat (s.size*8%18446744073709551616 / 2 ^ (8*r)%256)) _ hval (by omega) hb.size
       rw[List.append_assoc,yq3 s.size r (by omega)]at hown'
       have Hrun:=yh hrun
       have Hown:=yh hown'
       clear hrun hown' hown hval hlen
       go_wp2_with (at_builtin;refine yb2 _ rfl (.tmp 26) (.tmp 32) _ _ rfl _ _ rfl rfl Hrun.out ?_)
       exact⟨⟨r,by omega,rfl,Hown.out,hb.trans hb'⟩,by simp[intOf]⟩
end
section
open Go.RowKit
theorem ymf:(Tryz.prog.info? 174).map (fun i=>(i.zero,i.size,i.bytes))=some (some (.int .u32 0),1,4):=by kernel_rfl
theorem yn7 (n:Nat)(h:n=64):madeCells (Value.int .u32 0).cells (n*1)=wRow []:=by
 subst h
 kernel_rfl
theorem make64 (W:World):(Instr.makeSlice 209 (.int .i64 64) (.int .i64 64)).run Tryz.prog W=.ok (.slice (some ⟨W.heap.size,0,none⟩) 64 64) (W.alloc (.cells (wRow []) 174)):=by
 obtain⟨i0,hi,hz0,hz1,hz2⟩:=info_parts ymf
 have hr:=run_make (P:=Tryz.prog) W 209 174 i0 _ Tryz.underlying209 hi hz0 .i64 .i64 64 64 (by omega) (by omega) (by rw[hz2];omega) (by omega)
 rw[hz1,show (64:Int).toNat=64 from rfl,yn7 64 rfl]at hr
 exact hr
def Bts (w:World)(g:Nat)(P:List UInt8):Prop :=∀i,i<P.length→w.cell? ⟨g,i,none⟩=some (.int .u8 ((P.getD i 0).toNat:Int))
theorem Bts.below {w w':World}{B g:Nat}{P:List UInt8}(h:Bts w g P)(hb:Below B w w')(hg:g<B):Bts w' g P:=fun i hi=>(hb.cell (p:=⟨g,i,none⟩) hg).trans (h i hi)
theorem yr5 (P:List UInt8)(k t:Nat)(h:64*(k+1)≤P.length)(ht:t<16):
 ((P.getD (64*k+4*t) 0).toNat:Int)*16777216+((P.getD (64*k+4*t+1) 0).toNat:Int)*65536+((P.getD (64*k+4*t+2) 0).toNat:Int)*256+((P.getD (64*k+4*t+3) 0).toNat:Int)=((Sha.word ((P.drop (64*k)).take 64) t:Nat):Int):=by
 have e :∀j,j<64→((P.drop (64*k)).take 64).getD j 0=P.getD (64*k+j) 0:=by
  intro j hj
  simp[List.getD,List.getElem?_take,hj]
 unfold Sha.word
 rw[e (4*t) (by omega),e (4*t+1) (by omega),e (4*t+2) (by omega),e (4*t+3) (by omega)]
 simp only[Nat.add_assoc]
 omega
def Eight (w:World)(g:Nat)(st:Sha.St):Prop :=∀i,i<8→w.cell? ⟨g,i,none⟩=(st8 st)[i]?
theorem Eight.below {w w':World}{B g:Nat}{st:Sha.St}(h:Eight w g st)(hb:Below B w w')(hg:g<B):Eight w' g st:=fun i hi=>(hb.cell (p:=⟨g,i,none⟩) hg).trans (h i hi)
theorem yti (w:World)(gh:Nat)(st:Sha.St)(h:Holds w gh (st8 st)):
 ∃gv c w',(Builtin.append_ #[209,209] 209 #[.slice (some ⟨w.heap.size,0,none⟩) 0 0,.slice (some ⟨gh,0,none⟩) 8 8]).run Tryz.prog (w.alloc (.cells #[] 174))=.ok (.slice (some ⟨gv,0,none⟩) 8 c) w'∧
  Eight w' gv st∧w.heap.size≤gv∧gv<w'.heap.size∧Below w.heap.size w w':=by
 obtain⟨i0,hi,hz0,hz1,hz2⟩:=info_parts ymf
 have hb1:Below w.heap.size w (w.alloc (.cells #[] 174)):=(Below.refl _ _).alloc (Nat.le_refl _) _
 have h2:=h.alloc (.cells #[] 174)
 have hnews :∀j u,(st8 st).toList[j]? = some u→(w.alloc (.cells #[] 174)).cell? ((⟨gh,0,none⟩:Addr).add j)=some u:=by
  intro j u hj
  rw[add0,Nat.zero_add,h2.cell j,←hj]
  simp
 obtain⟨v',w',hr,hown,hgr⟩:=run_append_arg_grows (P:=Tryz.prog) (w.alloc (.cells #[] 174)) 209 209 174 i0 (.int .u32 0) 1 4 Tryz.underlying209 hi hz0 hz1 hz2 rfl (by omega) ⟨w.heap.size,0,none⟩ 0 0 [] rfl (fun j u hj=>by simp at hj) ⟨gh,0,none⟩ 8 8 (st8 st).toList rfl hnews (by omega) (by unfold maxLen;omega) (by omega)
 obtain⟨g,cap,rfl,hg,hgs,_,_,_,hc⟩:=Own1.yqi hown (by omega)
 refine⟨g,cap,w',?_,fun i hi=>?_,Nat.le_trans hb1.size hg,hgs,hb1.trans ((Below.refl w.heap.size _).grown hgr hb1.size (fun g hg=>by cases hg))⟩
 · rw[hr];rfl
 · have hl:i<(st8 st).size:=hi
   have:=hc i (st8 st)[i] (by simp[hl])
   rw[this,Array.getElem?_eq_getElem hl]
def part (a b:Sha.St)(j:Nat):Sha.St:=⟨if 0<j then Sha.add a.a b.a else a.a,if 1<j then Sha.add a.b b.b else a.b,if 2<j then Sha.add a.c b.c else a.c,if 3<j then Sha.add a.d b.d else a.d,
 if 4<j then Sha.add a.e b.e else a.e,if 5<j then Sha.add a.f b.f else a.f,if 6<j then Sha.add a.g b.g else a.g,if 7<j then Sha.add a.h b.h else a.h⟩
theorem part_8 (a b:Sha.St):part a b 8=Sha.plus a b:=rfl
theorem yul (a b:Sha.St)(j:Nat)(h:j<8):(st8 (part a b j))[j]? = some (.int .u32 (Sha.at_ a j:Nat)):=by
 have:j=0∨j=1∨j=2∨j=3∨j=4∨j=5∨j=6∨j=7:=by omega
 rcases this with rfl|rfl|rfl|rfl|rfl|rfl|rfl|rfl <;> rfl
theorem ys1 (a b:Sha.St)(j:Nat)(h:j<8):(st8 (part a b j)).setIfInBounds j (.int .u32 (Sha.add (Sha.at_ a j) (Sha.at_ b j):Nat))=st8 (part a b (j+1)):=by
 have:j=0∨j=1∨j=2∨j=3∨j=4∨j=5∨j=6∨j=7:=by omega
 rcases this with rfl|rfl|rfl|rfl|rfl|rfl|rfl|rfl <;> rfl
theorem Eight.far {w:World}{g:Nat}{st:Sha.St}(h:Eight w g st){p:Addr}(hp:g≠p.block)(u:Value):Eight (w.setCell p u) g st:=fun i hi=>
 (World.cell?_setCell_other w p ⟨g,i,none⟩ u (by intro e;exact hp (by rw[e]))).trans (h i hi)
end
section
open Go.RowKit
def RefSum:Prop :=∀(s:ByteArray) (w:World),s.size≤140737488355000→
 Calls Tryz.prog 136 #[.string s] w fun e w'=>e=.returned (.agg (bRow (Sha.sum s.data.toList)))∧Below w.heap.size w w'
theorem yfi (hRS:RefSum)(h:List UInt8)(s:ByteArray)(w:World)(hh:h.length=32)(hs:s.size≤140737488354900):
 Calls Tryz.prog 101 #[.agg (bRow h),.string s] w fun e w'=>e=.returned (.agg (bRow (Sha.sum (h++s.data.toList))))∧Below w.heap.size w w':=by
 have HH:=yh hh
 have hbig :¬(9223372036854775807<h.length+s.size):=by omega
 have i24:(Tryz.prog.info? 62).map (·.size)=some 32:=by kernel_rfl
 have I24:=yh i24
 clear hh i24
 go_enter Tryz.func101,Tryz.ntmps101
 have hz2:=ybb h (by rw[HH.out];omega)
 have I24h:=yh (I24.out.trans (congrArg some hz2.symm))
 have HRS:=yh hRS
 clear hz2 hRS
 go_wp2_with (refine wpList_load_row rfl 62 (.tmp 2) rfl w.heap.size rfl 62 _ (0,0) _ (heap_alloc2_old w _ _) Tryz.underlying62 rfl I24h.out ?_)
 refine yau ?_
 intro w1 hw1
 have hR:Holds w1 (w.heap.size+1) (bRow []):=by rw[hw1];exact Holds.new2 (by simp) rfl
 have hb1:Below w.heap.size w w1:=by rw[hw1];exact((Below.refl _ _).alloc (Nat.le_refl _) _).alloc (by simp) _
 clear hw1
 refine(yks h w1 HH.out).mono ?_
 rintro e w2 ⟨rfl,hb2⟩
 have HR:=yh (hR.below hb2 hR.lt)
 have hb2:=hb1.trans (hb2.mono hb1.size)
 clear hR
 go_wp2_with fail
 have hsz:((⟨h.toArray⟩:ByteArray)++s).size=32+s.size:=by rw[ByteArray.size_append,←HH.out];rfl
 have hdl:((⟨h.toArray⟩:ByteArray)++s).data.toList=h++s.data.toList:=by rw[ByteArray.data_append];simp
 refine(HRS.out _ w2 (by rw[hsz];omega)).mono ?_
 rw[hdl]
 rintro e w3 ⟨rfl,hb3⟩
 have HR2:=yh (HR.out.below hb3 HR.out.lt)
 have hz:=ybb (Sha.sum (h++s.data.toList)) (by rw[Sha.ygh];omega)
 have I24b:=yh (I24.out.trans (congrArg some hz.symm))
 have Hold:=yh ((ybb [] (by simp)).trans hz.symm)
 clear hz hsz hdl
 go_wp2_with (refine yai rfl 62 (.tmp 4) (.tmp 9) rfl (w.heap.size+1) (bRow (Sha.sum (h++s.data.toList))) rfl rfl _ HR2.out I24b.out Hold.out (ya1 _) ?_;intro w5 hw5)
 obtain⟨T5,hT5⟩:=(show Holds w5 (w.heap.size+1) (bRow (Sha.sum (h++s.data.toList))) from by rw[hw5];exact HR2.out.row _)
 exact bodyPost_ret (results_cell_row rfl _ _ (w.heap.size+1) T5 _ (0,0) _ rfl hT5 Tryz.underlying62 rfl I24b.out) rfl ⟨rfl,by rw[hw5];exact below_setRow (hb2.trans (hb3.mono hb2.size)) (by omega) _⟩
end
section
open Go.RowKit
def KeptR (w:World)(g:Nat)(L:List (Nat×Array Value))(w':World):Prop:=
 Below w.heap.size w w'∧(∃cs:Array Value,cs.size=32∧Holds w' g cs)∧∀p∈L,Holds w' p.1 p.2
section
variable {w w' w'' : World} {g : Nat} {L : List (Nat × Array Value)}
theorem KeptR.step (h:KeptR w g L w')(hb:Below w'.heap.size w' w''):KeptR w g L w'':=by
 obtain⟨h1,⟨cs,h2,h3⟩,h4⟩:=h
 exact⟨h1.trans (hb.mono h1.size),⟨cs,h2,h3.below hb h3.lt⟩,fun p hp=>(h4 p hp).below hb (h4 p hp).lt⟩
theorem KeptR.drew (h:KeptR w g L w'):KeptR w g L w'.drew:=h.step (Below.refl _ _).drew
theorem KeptR.alloc (h:KeptR w g L w')(o:Obj):KeptR w g L (w'.alloc o):=h.step ((Below.refl _ _).alloc (Nat.le_refl _) _)
theorem KeptR.there (h:KeptR w g L w'){n:Nat}(hn:n=32):w'.there g 0 n:=by
 obtain⟨h1,⟨cs,h2,h3⟩,h4⟩:=h
 exact h3.there (by omega)
theorem KeptR.range (h:KeptR w g L w'){b:Nat}{cs:Array Value}(hp:(b,cs)∈L):w'.rangeAt b 0 cs.toList:=fun j v hj=>by
 have:=(h.2.2 _ hp).cell j
 rw[Nat.zero_add,this]
 simpa using hj
theorem KeptR.set (h:KeptR w g L w'){V:Array Value}(hV:V.size=32)(hg:w.heap.size≤g)(hL :∀p∈L,p.1≠g):
 KeptR w g L (w'.setCells g 0 V.toList)∧Holds (w'.setCells g 0 V.toList) g V:=by
 obtain⟨h1,⟨cs,h2,h3⟩,h4⟩:=h
 have h5:=h3.cells (V:=V) (h2.trans hV.symm)
 refine⟨⟨yhg hg _ _ _ h1,⟨V,hV,h5⟩,fun p hp=>?_⟩,h5⟩
 have :∀(vs:List Value) (o:Nat) (w:World),Holds w p.1 p.2→Holds (w.setCells g o vs) p.1 p.2:=by
  intro vs
  induction vs with
  | nil=>intro o w h;exact h
  | cons v vs ih=>intro o w h;exact ih _ _ (h.far (p:=⟨g,o,none⟩) (hL p hp) v)
 exact this _ _ _ (h4 p hp)
end
end
section
open Go.RowKit
theorem ykk {wr w' w'':World}{g0 g1 t:Nat}{v7 v4 v5 v6 v:Value}(hb:Below w'.heap.size w' w'')(hg:g0<wr.heap.size)(hg1:g1<wr.heap.size)
 (h:Below wr.heap.size wr w'∧w'.cell? ⟨g0,7,none⟩=some v7∧w'.cell? ⟨g0,4,none⟩=some v4∧w'.cell? ⟨g0,5,none⟩=some v5∧w'.cell? ⟨g0,6,none⟩=some v6∧w'.cell? ⟨g1,t,none⟩=some v):
 Below wr.heap.size wr w''∧w''.cell? ⟨g0,7,none⟩=some v7∧w''.cell? ⟨g0,4,none⟩=some v4∧w''.cell? ⟨g0,5,none⟩=some v5∧w''.cell? ⟨g0,6,none⟩=some v6∧w''.cell? ⟨g1,t,none⟩=some v:=by
 obtain⟨h0,h1,h2,h3,h4,h5⟩:=h
 have e0:g0<w'.heap.size:=Nat.lt_of_lt_of_le hg h0.size
 have e1:g1<w'.heap.size:=Nat.lt_of_lt_of_le hg1 h0.size
 exact⟨h0.trans (hb.mono h0.size),(hb.cell (p:=⟨g0,7,none⟩) e0).trans h1,(hb.cell (p:=⟨g0,4,none⟩) e0).trans h2,(hb.cell (p:=⟨g0,5,none⟩) e0).trans h3,(hb.cell (p:=⟨g0,6,none⟩) e0).trans h4,(hb.cell (p:=⟨g1,t,none⟩) e1).trans h5⟩
end
section
open Go.RowKit
theorem ybr (R:List UInt8)(h:R.length≤32):(Tryz.prog.info? 62).map (·.size)=some (bRow R).size:=by
 have i24:(Tryz.prog.info? 62).map (·.size)=some 32:=by kernel_rfl
 rw[i24,ybb R h]
theorem yby (R Q:List UInt8)(h:R.length≤32)(hq:Q.length≤32):(bRow R).size=(bRow Q).size:=by rw[ybb R h,ybb Q hq]
abbrev HN (R:List UInt8)(e:Int):Value:=.tuple #[.agg (bRow R),.int .i64 e]
theorem key_no (who:Int)(w:World)(h:who<0∨64<who):
 Calls Tryz.prog 202 #[.int .i64 who] w fun e w'=>e=.returned (HN Seal.hz 20)∧Below w.heap.size w w':=by
 rw[show HN Seal.hz 20=HN [] 20 by unfold HN;rw[yl7]]
 have I24:=yh (ybr [] (by simp))
 rcases h with h|h
 all_goals
  go_enter Tryz.func202,Tryz.ntmps202
  go_wp2_with (refine yai rfl 62 (.tmp 2) (.tmp 12) rfl w.heap.size (bRow []) rfl rfl (bRow []) (Holds.new2 rfl rfl) I24.out rfl (ya1 _) ?_;intro w5 hw5;have Hw5:=yh hw5;clear hw5)
  have hR:Holds w5 w.heap.size (bRow []):=by rw[Hw5.out];exact(Holds.new _ _ _).row _
  exact bodyPost_ret (ya2 rfl _ _ w.heap.size (bRow []) _ rfl hR Tryz.underlying62 rfl I24.out _ rfl) rfl ⟨rfl,by rw[Hw5.out];exact below_setRow ((Below.refl _ _).alloc (Nat.le_refl _) _) (Nat.le_refl _) _⟩
theorem yq7 (who:Int)(w:World)(hT:Tab w)(h0:0≤who)(h1:who≤64):
 Calls Tryz.prog 202 #[.int .i64 who] w fun e w'=>e=.returned (HN (Seal.keyL who.toNat) 0)∧Below w.heap.size w w':=by
 have HT:=yh hT
 have hpos:=hT.pos
 obtain⟨R,hR⟩ :∃R,R=Seal.keyL who.toNat:=⟨_,rfl⟩
 have hR32:R.length≤32:=by rw[hR,Seal.ycw];omega
 have I24:=yh (ybr R hR32)
 have Hold:=yh (yby [] R (by simp) hR32)
 have hnl:(Oct.num who.toNat).length≤9:=Oct.yay who.toNat
 rw[←hR]
 have HR:=yh hR
 clear hT hR hR32
 go_enter Tryz.func202,Tryz.ntmps202
 go_wp2_with fail
 refine yau ?_
 intro w1 hw1
 have hH:Holds w1 w.heap.size (bRow []):=by rw[hw1];exact Holds.new _ _ _
 have hb1:Below w.heap.size w w1:=by rw[hw1];exact(Below.refl _ _).alloc (Nat.le_refl _) _
 clear hw1
 refine(yoz _ _ h0 (by omega)).mono ?_
 rintro e w2 ⟨rfl,hb2⟩
 have hH2:=hH.below hb2 hH.lt
 have hb2:=hb1.trans (hb2.mono hb1.size)
 have HH2:=yh hH2
 clear hH hH2
 have hbig :¬(9223372036854775807<3+(Oct.num who.toNat).length):=by omega
 go_wp2_with fail
 have hsz:((⟨#[107,101,121]⟩:ByteArray)++(⟨(Oct.num who.toNat).toArray⟩:ByteArray)).size=3+(Oct.num who.toNat).length:=by
  rw[ByteArray.size_append];rfl
 have hdl:((⟨#[107,101,121]⟩:ByteArray)++(⟨(Oct.num who.toNat).toArray⟩:ByteArray)).data.toList=[107,101,121]++Oct.num who.toNat:=by rw[ByteArray.data_append];simp
 refine(yk5 _ w2 (HT.out.below hb2 hpos) (by rw[hsz];omega)).mono ?_
 rw[hdl,show Sha.sum ([107,101,121]++Oct.num who.toNat)=R from HR.out.symm]
 rintro e w3 ⟨rfl,hb3⟩
 have HH3:=yh (HH2.out.below hb3 HH2.out.lt)
 have hb3:=hb2.trans (hb3.mono hb2.size)
 clear hsz hdl
 go_wp2_with (refine yai rfl 62 (.tmp 2) (.tmp 20) rfl w.heap.size (bRow R) rfl rfl _ HH3.out I24.out Hold.out (ya1 _) ?_;intro w5 hw5;have Hw5:=yh hw5;clear hw5)
 have hR5:Holds w5 w.heap.size (bRow R):=by rw[Hw5.out];exact HH3.out.row _
 exact bodyPost_ret (ya2 rfl _ _ w.heap.size (bRow R) _ rfl hR5 Tryz.underlying62 rfl I24.out _ rfl) rfl ⟨rfl,by rw[Hw5.out];exact below_setRow hb3 (Nat.le_refl _) _⟩
theorem yjy (who:Int)(w:World)(h:who<0∨64<who):
 Calls Tryz.prog 164 #[.int .i64 who] w fun e w'=>e=.returned (HN Seal.hz 20)∧Below w.heap.size w w':=by
 rw[show HN Seal.hz 20=HN [] 20 by unfold HN;rw[yl7]]
 have I24:=yh (ybr [] (by simp))
 rcases h with h|h
 all_goals
  go_enter Tryz.func164,Tryz.ntmps164
  go_wp2_with (refine yai rfl 62 (.tmp 2) (.tmp 10) rfl w.heap.size (bRow []) rfl rfl (bRow []) (Holds.new2 rfl rfl) I24.out rfl (ya1 _) ?_;intro w5 hw5;have Hw5:=yh hw5;clear hw5)
  have hR:Holds w5 w.heap.size (bRow []):=by rw[Hw5.out];exact(Holds.new _ _ _).row _
  exact bodyPost_ret (ya2 rfl _ _ w.heap.size (bRow []) _ rfl hR Tryz.underlying62 rfl I24.out _ rfl) rfl ⟨rfl,by rw[Hw5.out];exact below_setRow ((Below.refl _ _).alloc (Nat.le_refl _) _) (Nat.le_refl _) _⟩
theorem ylf (hRS:RefSum)(w:World):
 Calls Tryz.prog 164 #[.int .i64 0] w fun e w'=>e=.returned (HN (Seal.keyL 0) 0)∧Below w.heap.size w w':=by
 obtain⟨R,hR⟩ :∃R,R=Seal.keyL 0:=⟨_,rfl⟩
 have hR32:R.length≤32:=by rw[hR,Seal.ycw];omega
 have I24:=yh (ybr R hR32)
 have Hold:=yh (yby [] R (by simp) hR32)
 rw[←hR]
 rw[Seal.yq8]at hR
 have HR:=yh hR
 have HRS:=yh hRS
 clear hR hR32 hRS
 go_enter Tryz.func164,Tryz.ntmps164
 go_wp2_with fail
 refine yau ?_
 intro w1 hw1
 have hH:Holds w1 w.heap.size (bRow []):=by rw[hw1];exact Holds.new _ _ _
 have hb1:Below w.heap.size w w1:=by rw[hw1];exact(Below.refl _ _).alloc (Nat.le_refl _) _
 clear hw1
 have hc:=HRS.out ⟨#[107,101,121,0]⟩ w1 (by decide)
 change Calls _ _ _ _ (fun e w'=>e=.returned (.agg (bRow (Sha.sum [107,101,121,0])))∧_)at hc
 rw[←HR.out]at hc
 refine hc.mono ?_
 rintro e w3 ⟨rfl,hb3⟩
 have HH3:=yh (hH.below hb3 hH.lt)
 have hb3:=hb1.trans (hb3.mono hb1.size)
 clear hc hH
 go_wp2_with (refine yai rfl 62 (.tmp 2) (.tmp 13) rfl w.heap.size (bRow R) rfl rfl _ HH3.out I24.out Hold.out (ya1 _) ?_;intro w5 hw5;have Hw5:=yh hw5;clear hw5)
 have hR5:Holds w5 w.heap.size (bRow R):=by rw[Hw5.out];exact HH3.out.row _
 exact bodyPost_ret (ya2 rfl _ _ w.heap.size (bRow R) _ rfl hR5 Tryz.underlying62 rfl I24.out _ rfl) rfl ⟨rfl,by rw[Hw5.out];exact below_setRow hb3 (Nat.le_refl _) _⟩
theorem yqh (T:TypeId)(W:World)(x:Int):(convert 85 9 (.slice (some ⟨W.heap.size,0,none⟩) 1 1)).run Tryz.prog (W.alloc (.cells #[.int .u8 x] T))=.ok (S [UInt8.ofNat x.toNat]) (W.alloc (.cells #[.int .u8 x] T)):=by
 have:=run_convert_bytes_arg (P:=Tryz.prog) (W.alloc (.cells #[.int .u8 x] T)) 85 5 Tryz.underlying85 Tryz.underlying5 W.heap.size 0 1 1 [x] rfl (fun i hi=>by
  obtain rfl:i=0:=by omega
  simp[go_sem]) 9 Tryz.underlying9
 exact this
theorem ynz (hRS:RefSum)(who:Int)(w:World)(h0:0<who)(h1:who≤64):
 Calls Tryz.prog 164 #[.int .i64 who] w fun e w'=>e=.returned (HN (Seal.keyL who.toNat) 0)∧Below w.heap.size w w':=by
 obtain⟨R,hR⟩ :∃R,R=Seal.keyL who.toNat:=⟨_,rfl⟩
 have hR32:R.length≤32:=by rw[hR,Seal.ycw];omega
 have I24:=yh (ybr R hR32)
 have Hold:=yh (yby [] R (by simp) hR32)
 rw[←hR]
 rw[Seal.ytb who.toNat (by omega) (by omega)]at hR
 have HR:=yh hR
 have HRS:=yh hRS
 have hne:(who == 0)=false:=by simp only[beq_eq_false_iff_ne];omega
 clear hR hR32 hRS
 go_enter Tryz.func164,Tryz.ntmps164
 have hcv :∀(X:Obj) (T:TypeId),(convert 85 9 (.slice (some ⟨w.heap.size+1,0,none⟩) 1 1)).run Tryz.prog ((w.alloc X).alloc (.cells #[.int .u8 who] T))=.ok (S [UInt8.ofNat who.toNat]) ((w.alloc X).alloc (.cells #[.int .u8 who] T)):=by
  intro X T
  have:=yqh T (w.alloc X) who
  rwa[show (w.alloc X).heap.size=w.heap.size+1 from by simp]at this
 go_wp2_with fail
 clear hcv
 refine yau ?_
 intro w1 hw1
 have hH:Holds w1 w.heap.size (bRow []):=by rw[hw1];exact(Holds.new2 rfl rfl).alloc _
 have hb1:Below w.heap.size w w1:=by rw[hw1];exact((Below.refl _ _).alloc (Nat.le_refl _) _).alloc (by simp) _
 clear hw1
 have hc:=HRS.out ⟨#[107,101,121,1,UInt8.ofNat who.toNat]⟩ w1 (by show 5≤_;decide)
 change Calls _ _ _ _ (fun e w'=>e=.returned (.agg (bRow (Sha.sum [107,101,121,1,UInt8.ofNat who.toNat])))∧_)at hc
 rw[←HR.out]at hc
 refine hc.mono ?_
 rintro e w3 ⟨rfl,hb3⟩
 have HH3:=yh (hH.below hb3 hH.lt)
 have hb3:=hb1.trans (hb3.mono hb1.size)
 clear hc hH
 go_wp2_with (refine yai rfl 62 (.tmp 2) (.tmp 19) rfl w.heap.size (bRow R) rfl rfl _ HH3.out I24.out Hold.out (ya1 _) ?_;intro w5 hw5;have Hw5:=yh hw5;clear hw5)
 have hR5:Holds w5 w.heap.size (bRow R):=by rw[Hw5.out];exact HH3.out.row _
 exact bodyPost_ret (ya2 rfl _ _ w.heap.size (bRow R) _ rfl hR5 Tryz.underlying62 rfl I24.out _ rfl) rfl ⟨rfl,by rw[Hw5.out];exact below_setRow hb3 (Nat.le_refl _) _⟩
theorem yn0 (hRS:RefSum)(who:Int)(w:World):
 Calls Tryz.prog 164 #[.int .i64 who] w fun e w'=>e=.returned (HN (Seal.key who).1 (Seal.key who).2)∧Below w.heap.size w w':=by
 unfold Seal.key
 by_cases h:who<0∨64<who
 · rw[if_pos h];exact yjy who w h
 · rw[if_neg h]
   by_cases h0:who=0
   · subst h0;rw[show (0:Int).toNat=0 from rfl];exact ylf hRS w
   · exact ynz hRS who w (by omega) (by omega)
end
section
open Go.RowKit
theorem yfq {P:Program}{w:World}{ops:Array Oper}{rest:List Oper}{o:Oper}{a:Act}{Q:Exit→Act→World→Prop}(hgd:o.guard=none)(d s:Operand)(dT sT elem:TypeId)
 (ho:o.op=.call { callee:=.builtin .copy,args:=#[d,s],argTypes:=#[dT,sT] }) (hu:P.underlying dT=some (.slice elem)) (hz:(P.info? elem).map (·.size)=some 1)
 (g gs dLen dCap sLen sCap:Nat) (cur:Array Value) (cs:List Value) (hd:a.eval d=.slice (some ⟨g,0,none⟩) dLen dCap) (hs:a.eval s=.slice (some ⟨gs,0,none⟩) sLen sCap)
 (hg:Holds w g cur) (hgs:Holds w gs cs.toArray) (hn:cs.length=Nat.min sLen dLen) (hfit:cs.length≤cur.size) (h1 :∀v∈cs,v.oneCell'=true)
 (h :∀w',w'=w.setRow g (cs++cur.toList.drop cs.length).toArray→wpList P ops Q rest (a.put o.dst (goInt cs.length)) w'):wpList P ops Q (o::rest) a w:=by
 obtain⟨T,hT⟩:=hg
 have hr:=run_copy_row (P:=P) w dT sT o.type elem g 0 dLen dCap ⟨gs,0,none⟩ sLen sCap cur T cs hu hz hT hn (fun j v hj=>by
  have e:(⟨gs,0,none⟩:Addr).add j=⟨gs,j,none⟩:=by unfold Addr.add;split <;> simp_all
  rw[e,hgs.cell j];simpa using hj) (by simpa using hfit) h1
 refine wpList_plain hgd fun K hK=>?_
 unfold Oper.wp execOp
 simp only[ho,resolve,invoke,builtin,Sem.run_bind,Sem.run_pure,Result.andThen_ok,List.map_toArray,List.map_cons,List.map_nil,hd,hs,hr]
 refine hK _ _ (h _ ?_)
 simp
theorem yso (W:World)(g n:Nat)(h:List UInt8)(hh:h.length=n)(hg:Holds W g (yRow h)):
 (Go.convert 85 9 (.slice (some ⟨g,0,none⟩) n n)).run Tryz.prog W=.ok (S h) W:=by
 have:=run_convert_bytes_arg (P:=Tryz.prog) W 85 5 Tryz.underlying85 Tryz.underlying5 g 0 n n (h.map fun b=>(b.toNat:Int)) (by rw[List.length_map,hh]) (fun i hi=>by
  rw[Nat.zero_add,hg.cell i]
  exact yf8 h i (by omega)) 9 Tryz.underlying9
 rw[ydk]at this
 exact this
theorem yr1 (l:List UInt8) :∀v∈(yRow l).toList,v.oneCell'=true:=by unfold yRow;simp[Value.oneCell']
theorem yk0 (l:List UInt8):(yRow l).toList.toArray=yRow l:=by simp
theorem yud (k:List UInt8)(dom:Int)(body:ByteArray)(w:World)(hT:Tab w)(hk:k.length=32)(h0:0≤dom)(h1:dom≤255)(hs:body.size≤1152921504606846900):
 Calls Tryz.prog 203 #[.agg (bRow k),.int .u8 dom,.string body] w fun e w'=>e=.returned (.agg (bRow (Seal.tagL k dom.toNat body.data.toList)))∧Below w.heap.size w w':=by
 have HT:=yh hT
 have hpos:=hT.pos
 obtain⟨R,hR⟩ :∃R,R=Seal.tagL k dom.toNat body.data.toList:=⟨_,rfl⟩
 have hR32:R.length≤32:=by rw[hR,Seal.yeq];omega
 have I24:=yh (ybr R hR32)
 have Hold:=yh (yby [] R (by simp) hR32)
 have I5:Hid ((Tryz.prog.info? 5).map (·.size)=some 1):=(by kernel_rfl:(Tryz.prog.info? 5).map (·.size)=some 1)
 rw[←hR]
 have HR:=yh hR
 have HK:=yh hk
 obtain⟨hd,hhd⟩ :∃hd,hd=k ++ [UInt8.ofNat dom.toNat]:=⟨_,rfl⟩
 have hhl:hd.length=33:=by rw[hhd];simp[hk]
 have HD:=yh hhd
 have HL:=yh hhl
 clear hT hR hR32 hk hhd
 go_enter Tryz.func203,Tryz.ntmps203
 go_wp2_with fail
 refine yb9 2 (by kernel_rfl) (by kernel_rfl) ?_
 intro wd hwd
 have k0:Holds wd w.heap.size (yRow k):=by rw[hwd,←ycr k HK.out];exact((Holds.new2 rfl rfl).alloc _).alloc _
 have k1:Holds wd (w.heap.size+1) (bRow []):=by rw[hwd];exact(Holds.new2 (by simp) rfl).alloc _
 have k2:Holds wd (w.heap.size+1+1) (yRow (List.replicate 33 0)):=by rw[hwd];exact Holds.new2 (by simp) rfl
 have kb:Below w.heap.size w wd:=by rw[hwd];exact((((Below.refl _ _).alloc (Nat.le_refl _) _).alloc (by simp) _).alloc (by simp;omega) _).drew
 clear hwd
 simp only[List.take_succ_cons,List.take_zero,List.drop_succ_cons,List.drop_zero]
 repeat still_step
 refine wpStill_nil ?_
 have hkl:=HK.out
 refine yfq rfl (.tmp 8) (.tmp 9) _ _ 5 rfl Tryz.underlying85 I5.out (w.heap.size+1+1) w.heap.size 33 33 32 32 (yRow (List.replicate 33 0)) (yRow k).toList rfl rfl k2 (by rw[yk0];exact k0)
  (by rw[Array.length_toList,ydw,hkl];rfl) (by rw[Array.length_toList,ydw,ydw,hkl,List.length_replicate];omega) (yr1 k) ?_
 intro w4 hw4
 have c2:Holds w4 (w.heap.size+1+1) (yRow (k ++ [0])):=by
  rw[hw4]
  have:=k2.row ((yRow k).toList++(yRow (List.replicate 33 0)).toList.drop (yRow k).toList.length).toArray
  have e:((yRow k).toList++(yRow (List.replicate 33 0)).toList.drop (yRow k).toList.length).toArray=yRow (k ++ [0]):=by
   rw[Array.length_toList,ydw,hkl]
   unfold yRow
   simp
  rw[e]at this ⊢
  exact this
 have c1:Holds w4 (w.heap.size+1) (bRow []):=by rw[hw4];exact k1.rowFar (by omega) _
 have cb:Below w.heap.size w w4:=by rw[hw4];exact below_setRow kb (by omega) _
 have q:=c2.cell 32
 have qf:=c2.free 32
 have hd0:(yRow (k ++ [0]))[32]? = some (.int .u8 0):=by
  rw[yf8 _ 32 (by simp[hkl])]
  simp[List.getD,hkl]
 rw[hd0]at q
 have c3:=c2.set_ 32 (.int .u8 dom)
 have hset:(yRow (k ++ [0])).setIfInBounds 32 (.int .u8 dom)=yRow hd:=by
  have:=yik k [] 0 (UInt8.ofNat dom.toNat) dom (by rw[UInt8.toNat_ofNat'];omega)
  rw[hkl]at this
  rw[this,HD.out]
 rw[hset]at c3
 have c1s:=yh (c1.far (p:=⟨w.heap.size+1+1,32,none⟩) (show w.heap.size+1≠w.heap.size+1+1 by omega) (Value.int .u8 dom))
 have cbs:=cb.setCell (p:=⟨w.heap.size+1+1,32,none⟩) (show w.heap.size≤w.heap.size+1+1 by omega) (Value.int .u8 dom)
 have C3:=yh c3
 clear hw4 k0 k1 k2 kb c2 c1 cb hd0 hset c3 hkl
 go_wp2_with fail
 rw[yso _ _ 33 hd HL.out C3.out]
 have hlen:=HL.out
 have hbig :¬(9223372036854775807<hd.length+body.size):=by omega
 clear hlen
 go_wp2_with fail
 have hsz:((⟨hd.toArray⟩:ByteArray)++body).size=33+body.size:=by rw[ByteArray.size_append,←HL.out];rfl
 have hdl:((⟨hd.toArray⟩:ByteArray)++body).data.toList=hd++body.data.toList:=by rw[ByteArray.data_append];simp
 refine yau ?_
 intro w5 hw5
 have c1s:=(show Holds w5 (w.heap.size+1) (bRow []) by rw[hw5];exact c1s.out)
 have cbs:=(show Below w.heap.size w w5 by rw[hw5];exact cbs)
 clear hw5
 refine(yk5 _ w5 (HT.out.below cbs hpos) (by rw[hsz];omega)).mono ?_
 rw[hdl,show Sha.sum (hd++body.data.toList)=R by rw[HR.out,HD.out];unfold Seal.tagL;rw[List.append_assoc];rfl]
 rintro e w6 ⟨rfl,hb6⟩
 have HH6:=yh (c1s.below hb6 c1s.lt)
 have hb6:=cbs.trans (hb6.mono cbs.size)
 clear hsz hdl c1s cbs
 go_wp2_with (refine yai rfl 62 (.tmp 6) (.tmp 17) rfl (w.heap.size+1) (bRow R) rfl rfl _ HH6.out I24.out Hold.out (ya1 _) ?_;intro w7 hw7;have Hw7:=yh hw7;clear hw7)
 obtain⟨T5,hT5⟩:=(show Holds w7 (w.heap.size+1) (bRow R) from by rw[Hw7.out];exact HH6.out.row _)
 exact bodyPost_ret (results_cell_row rfl _ _ (w.heap.size+1) T5 _ (0,0) _ rfl hT5 Tryz.underlying62 rfl I24.out) rfl ⟨rfl,by rw[Hw7.out];exact below_setRow hb6 (by omega) _⟩
end
section
open Go.RowKit
theorem yo1 (e:Int):HN Seal.hz e=HN [] e:=by unfold HN;rw[yl7]
theorem yvc (who dom:Int)(body:ByteArray)(w:World)(h:who<0∨64<who):
 Calls Tryz.prog 198 #[.int .i64 who,.int .i64 dom,.string body] w fun e w'=>e=.returned (HN Seal.hz 20)∧Below w.heap.size w w':=by
 have I24:=yh (ybr [] (by simp))
 rw[yo1]
 go_enter Tryz.func198,Tryz.ntmps198
 go_wp2_with fail
 refine yau ?_
 intro w1 hw1
 have hH:Holds w1 w.heap.size (bRow []):=by rw[hw1];exact Holds.new _ _ _
 have hb1:Below w.heap.size w w1:=by rw[hw1];exact(Below.refl _ _).alloc (Nat.le_refl _) _
 clear hw1
 have hk:=key_no who w1 h
 rw[yo1]at hk
 refine hk.mono ?_
 rintro e w2 ⟨rfl,hb2⟩
 have HH2:=yh (hH.below hb2 hH.lt)
 have hb2:=hb1.trans (hb2.mono hb1.size)
 clear hk hH
 go_wp2_with (first
  | (refine yai rfl 62 (.tmp 8) (.tmp 13) rfl w2.heap.size (bRow []) rfl rfl (bRow []) (Holds.new2 rfl rfl) I24.out rfl (ya1 _) ?_; intro w5 hw5
     have H5:=yh (show Holds w5 w.heap.size (bRow []) by rw[hw5];exact(HH2.out.alloc _).rowFar (by have:=HH2.out.lt;omega) _)
     have hb5:=(show Below w.heap.size w w5 by rw[hw5];exact below_setRow (hb2.alloc hb2.size _) hb2.size _)
     clear hw5)
  | (refine yai rfl 62 (.tmp 6) (.tmp 17) rfl w.heap.size (bRow []) rfl rfl (bRow []) H5.out I24.out rfl (ya1 _) ?_;intro w7 hw7;have Hw7:=yh hw7;clear hw7))
 have hR7:Holds w7 w.heap.size (bRow []):=by rw[Hw7.out];exact H5.out.row _
 exact bodyPost_ret (ya2 rfl _ _ w.heap.size (bRow []) _ rfl hR7 Tryz.underlying62 rfl I24.out _ rfl) rfl ⟨rfl,by rw[Hw7.out];exact below_setRow hb5 (Nat.le_refl _) _⟩
theorem yvd (who dom:Int)(body:ByteArray)(w:World)(h0:0≤who)(h1:who≤64)(hT:Tab w)(h:dom<1∨4<dom):
 Calls Tryz.prog 198 #[.int .i64 who,.int .i64 dom,.string body] w fun e w'=>e=.returned (HN Seal.hz 2)∧Below w.heap.size w w':=by
 obtain⟨K,hK⟩ :∃K,K=Seal.keyL who.toNat:=⟨_,rfl⟩
 have hK32:K.length≤32:=by rw[hK,Seal.ycw];omega
 have I24:=yh (ybr [] (by simp))
 have I24k:=yh (ybr K hK32)
 have Hold:=yh (yby [] K (by simp) hK32)
 have key:=fun (w1:World) (hb1:Below w.heap.size w w1)=>yq7 who w1 (hT.below hb1 hT.pos) h0 h1
 rw[←hK]at key
 have KEY:=yh key
 rw[yo1]
 clear hK hK32 key hT
 rcases h with h|h
 all_goals
  go_enter Tryz.func198,Tryz.ntmps198
  go_wp2_with fail
  refine yau ?_
  intro w1 hw1
  have hH:Holds w1 w.heap.size (bRow []):=by rw[hw1];exact Holds.new _ _ _
  have hb1:Below w.heap.size w w1:=by rw[hw1];exact(Below.refl _ _).alloc (Nat.le_refl _) _
  clear hw1
  refine(KEY.out w1 hb1).mono ?_
  rintro e w2 ⟨rfl,hb2⟩
  have HH2:=yh (hH.below hb2 hH.lt)
  have hb2:=hb1.trans (hb2.mono hb1.size)
  clear hH
  go_wp2_with (first
   | (refine yai rfl 62 (.tmp 8) (.tmp 13) rfl w2.heap.size (bRow K) rfl rfl (bRow []) (Holds.new2 rfl rfl) I24k.out Hold.out (ya1 _) ?_; intro w5 hw5
      have H5:=yh (show Holds w5 w.heap.size (bRow []) by rw[hw5];exact(HH2.out.alloc _).rowFar (by have:=HH2.out.lt;omega) _)
      have hb5:=(show Below w.heap.size w w5 by rw[hw5];exact below_setRow (hb2.alloc hb2.size _) hb2.size _)
      clear hw5)
   | (refine yai rfl 62 (.tmp 6) (.tmp 25) rfl w.heap.size (bRow []) rfl rfl (bRow []) H5.out I24.out rfl (ya1 _) ?_;intro w7 hw7;have Hw7:=yh hw7;clear hw7))
  have hR7:Holds w7 w.heap.size (bRow []):=by rw[Hw7.out];exact H5.out.row _
  exact bodyPost_ret (ya2 rfl _ _ w.heap.size (bRow []) _ rfl hR7 Tryz.underlying62 rfl I24.out _ rfl) rfl ⟨rfl,by rw[Hw7.out];exact below_setRow hb5 (Nat.le_refl _) _⟩
theorem yvb (who dom:Int)(body:ByteArray)(w:World)(hT:Tab w)(h0:0≤who)(h1:who≤64)(h2:1≤dom)(h3:dom≤4)(hs:body.size≤1152921504606846900):
 Calls Tryz.prog 198 #[.int .i64 who,.int .i64 dom,.string body] w fun e w'=>e=.returned (HN (Seal.tagL (Seal.keyL who.toNat) dom.toNat body.data.toList) 0)∧Below w.heap.size w w':=by
 have HT:=yh hT
 have hpos:=hT.pos
 obtain⟨K,hK⟩ :∃K,K=Seal.keyL who.toNat:=⟨_,rfl⟩
 have hK32:K.length≤32:=by rw[hK,Seal.ycw];omega
 have hKl:K.length=32:=by rw[hK,Seal.ycw]
 have I24k:=yh (ybr K hK32)
 have Hold:=yh (yby [] K (by simp) hK32)
 have key:=fun (w1:World) (hb1:Below w.heap.size w w1)=>yq7 who w1 (hT.below hb1 hT.pos) h0 h1
 rw[←hK]at key
 have KEY:=yh key
 have HKl:=yh hKl
 rw[←hK]
 clear hK hK32 key hT hKl
 obtain⟨R,hR⟩ :∃R,R=Seal.tagL K dom.toNat body.data.toList:=⟨_,rfl⟩
 have hR32:R.length≤32:=by rw[hR,Seal.yeq];omega
 have I24:=yh (ybr R hR32)
 have HoldR:=yh (yby [] R (by simp) hR32)
 have hut:IntKind.u8.wrap dom=dom:=by rw[IntKind.wrap_u8];omega
 rw[←hR]
 have HR:=yh hR
 clear hR hR32
 go_enter Tryz.func198,Tryz.ntmps198
 go_wp2_with fail
 refine yau ?_
 intro w1 hw1
 have hH:Holds w1 w.heap.size (bRow []):=by rw[hw1];exact Holds.new _ _ _
 have hb1:Below w.heap.size w w1:=by rw[hw1];exact(Below.refl _ _).alloc (Nat.le_refl _) _
 clear hw1
 refine(KEY.out w1 hb1).mono ?_
 rintro e w2 ⟨rfl,hb2⟩
 have HH2:=yh (hH.below hb2 hH.lt)
 have hb2:=hb1.trans (hb2.mono hb1.size)
 clear hH
 go_wp2_with (first
  | (refine yai rfl 62 (.tmp 8) (.tmp 13) rfl w2.heap.size (bRow K) rfl rfl (bRow []) (Holds.new2 rfl rfl) I24k.out Hold.out (ya1 _) ?_; intro w5 hw5
     have H5:=yh (show Holds w5 w.heap.size (bRow []) by rw[hw5];exact(HH2.out.alloc _).rowFar (by have:=HH2.out.lt;omega) _)
     have hb5:=(show Below w.heap.size w w5 by rw[hw5];exact below_setRow (hb2.alloc hb2.size _) hb2.size _)
     obtain⟨T5,hT5⟩:=(show Holds w5 w2.heap.size (bRow K) by rw[hw5];exact(Holds.new2 rfl rfl).row _)
     have G5:=yh hT5
     clear hw5 hT5)
  | (refine wpList_load_row rfl 62 (.tmp 8) rfl w2.heap.size rfl T5 _ (0,0) _ G5.out Tryz.underlying62 rfl I24k.out ?_))
 refine(yud K dom body w5 (HT.out.below hb5 hpos) HKl.out (by omega) (by omega) hs).mono ?_
 rw[←HR.out]
 rintro e w6 ⟨rfl,hb6⟩
 have H6:=yh (H5.out.below hb6 H5.out.lt)
 have hb6:=hb5.trans (hb6.mono hb5.size)
 go_wp2_with (refine yai rfl 62 (.tmp 6) (.tmp 30) rfl w.heap.size (bRow R) rfl rfl (bRow []) H6.out I24.out HoldR.out (ya1 _) ?_;intro w7 hw7;have Hw7:=yh hw7;clear hw7)
 have hR7:Holds w7 w.heap.size (bRow R):=by rw[Hw7.out];exact H6.out.row _
 exact bodyPost_ret (ya2 rfl _ _ w.heap.size (bRow R) _ rfl hR7 Tryz.underlying62 rfl I24.out _ rfl) rfl ⟨rfl,by rw[Hw7.out];exact below_setRow hb6 (Nat.le_refl _) _⟩
theorem yve (who dom:Int)(body:ByteArray)(w:World)(hT:Tab w)(hs:body.size≤1152921504606846900):
 Calls Tryz.prog 198 #[.int .i64 who,.int .i64 dom,.string body] w fun e w'=>e=.returned (HN (Seal.tag who dom body.data.toList).1 (Seal.tag who dom body.data.toList).2)∧Below w.heap.size w w':=by
 unfold Seal.tag
 by_cases h:who<0∨64<who
 · rw[if_pos h];exact yvc who dom body w h
 · rw[if_neg h]
   by_cases h2:dom<1∨4<dom
   · rw[if_pos h2];exact yvd who dom body w (by omega) (by omega) hT h2
   · rw[if_neg h2];exact yvb who dom body w hT (by omega) (by omega) (by omega) (by omega) hs
end
section
open Go.RowKit
theorem ynv (who dom:Int)(body:ByteArray)(w:World)(h:who<0∨64<who):
 Calls Tryz.prog 134 #[.int .i64 who,.int .i64 dom,.string body] w fun e w'=>e=.returned (HN Seal.hz 20)∧Below w.heap.size w w':=by
 have I24:=yh (ybr [] (by simp))
 rw[yo1]
 go_enter Tryz.func134,Tryz.ntmps134
 go_wp2_with fail
 refine yau ?_
 intro w1 hw1
 have hH:Holds w1 w.heap.size (bRow []):=by rw[hw1];exact Holds.new _ _ _
 have hb1:Below w.heap.size w w1:=by rw[hw1];exact(Below.refl _ _).alloc (Nat.le_refl _) _
 clear hw1
 have hk:=yjy who w1 h
 rw[yo1]at hk
 refine hk.mono ?_
 rintro e w2 ⟨rfl,hb2⟩
 have HH2:=yh (hH.below hb2 hH.lt)
 have hb2:=hb1.trans (hb2.mono hb1.size)
 clear hk hH
 go_wp2_with (first
  | (refine yai rfl 62 (.tmp 8) (.tmp 13) rfl w2.heap.size (bRow []) rfl rfl (bRow []) (Holds.new2 rfl rfl) I24.out rfl (ya1 _) ?_; intro w5 hw5
     have H5:=yh (show Holds w5 w.heap.size (bRow []) by rw[hw5];exact(HH2.out.alloc _).rowFar (by have:=HH2.out.lt;omega) _)
     have hb5:=(show Below w.heap.size w w5 by rw[hw5];exact below_setRow (hb2.alloc hb2.size _) hb2.size _)
     clear hw5)
  | (refine yai rfl 62 (.tmp 6) (.tmp 17) rfl w.heap.size (bRow []) rfl rfl (bRow []) H5.out I24.out rfl (ya1 _) ?_;intro w7 hw7;have Hw7:=yh hw7;clear hw7))
 have hR7:Holds w7 w.heap.size (bRow []):=by rw[Hw7.out];exact H5.out.row _
 exact bodyPost_ret (ya2 rfl _ _ w.heap.size (bRow []) _ rfl hR7 Tryz.underlying62 rfl I24.out _ rfl) rfl ⟨rfl,by rw[Hw7.out];exact below_setRow hb5 (Nat.le_refl _) _⟩
theorem ygo (hRS:RefSum)(who:Int)(w:World)(h0:0≤who)(h1:who≤64):
 Calls Tryz.prog 164 #[.int .i64 who] w fun e w'=>e=.returned (HN (Seal.keyL who.toNat) 0)∧Below w.heap.size w w':=by
 have h:=yn0 hRS who w
 unfold Seal.key at h
 rw[if_neg (by omega)]at h
 exact h
theorem ynw (hRS:RefSum)(who dom:Int)(body:ByteArray)(w:World)(h0:0≤who)(h1:who≤64)(h:dom<1∨4<dom):
 Calls Tryz.prog 134 #[.int .i64 who,.int .i64 dom,.string body] w fun e w'=>e=.returned (HN Seal.hz 2)∧Below w.heap.size w w':=by
 obtain⟨K,hK⟩ :∃K,K=Seal.keyL who.toNat:=⟨_,rfl⟩
 have hK32:K.length≤32:=by rw[hK,Seal.ycw];omega
 have I24:=yh (ybr [] (by simp))
 have I24k:=yh (ybr K hK32)
 have Hold:=yh (yby [] K (by simp) hK32)
 have key:=fun (w1:World) (hb1:Below w.heap.size w w1)=>ygo hRS who w1 h0 h1
 rw[←hK]at key
 have KEY:=yh key
 rw[yo1]
 clear hK hK32 key hRS
 rcases h with h|h
 all_goals
  go_enter Tryz.func134,Tryz.ntmps134
  go_wp2_with fail
  refine yau ?_
  intro w1 hw1
  have hH:Holds w1 w.heap.size (bRow []):=by rw[hw1];exact Holds.new _ _ _
  have hb1:Below w.heap.size w w1:=by rw[hw1];exact(Below.refl _ _).alloc (Nat.le_refl _) _
  clear hw1
  refine(KEY.out w1 hb1).mono ?_
  rintro e w2 ⟨rfl,hb2⟩
  have HH2:=yh (hH.below hb2 hH.lt)
  have hb2:=hb1.trans (hb2.mono hb1.size)
  clear hH
  go_wp2_with (first
   | (refine yai rfl 62 (.tmp 8) (.tmp 13) rfl w2.heap.size (bRow K) rfl rfl (bRow []) (Holds.new2 rfl rfl) I24k.out Hold.out (ya1 _) ?_; intro w5 hw5
      have H5:=yh (show Holds w5 w.heap.size (bRow []) by rw[hw5];exact(HH2.out.alloc _).rowFar (by have:=HH2.out.lt;omega) _)
      have hb5:=(show Below w.heap.size w w5 by rw[hw5];exact below_setRow (hb2.alloc hb2.size _) hb2.size _)
      clear hw5)
   | (refine yai rfl 62 (.tmp 6) (.tmp 25) rfl w.heap.size (bRow []) rfl rfl (bRow []) H5.out I24.out rfl (ya1 _) ?_;intro w7 hw7;have Hw7:=yh hw7;clear hw7))
  have hR7:Holds w7 w.heap.size (bRow []):=by rw[Hw7.out];exact H5.out.row _
  exact bodyPost_ret (ya2 rfl _ _ w.heap.size (bRow []) _ rfl hR7 Tryz.underlying62 rfl I24.out _ rfl) rfl ⟨rfl,by rw[Hw7.out];exact below_setRow hb5 (Nat.le_refl _) _⟩
theorem yd2 (W:World)(g:Nat)(x:Int)(h:W.cell? ⟨g,0,none⟩=some (.int .u8 x)):(convert 85 9 (.slice (some ⟨g,0,none⟩) 1 1)).run Tryz.prog W=.ok (S [UInt8.ofNat x.toNat]) W:=by
 have:=run_convert_bytes_arg (P:=Tryz.prog) W 85 5 Tryz.underlying85 Tryz.underlying5 g 0 1 1 [x] rfl (fun i hi=>by
  obtain rfl:i=0:=by omega
  simpa using h) 9 Tryz.underlying9
 exact this
theorem ynu (hRS:RefSum)(who dom:Int)(body:ByteArray)(w:World)(h0:0≤who)(h1:who≤64)(h2:1≤dom)(h3:dom≤4)(hs:body.size≤140737488354900):
 Calls Tryz.prog 134 #[.int .i64 who,.int .i64 dom,.string body] w fun e w'=>e=.returned (HN (Seal.tagL (Seal.keyL who.toNat) dom.toNat body.data.toList) 0)∧Below w.heap.size w w':=by
 obtain⟨K,hK⟩ :∃K,K=Seal.keyL who.toNat:=⟨_,rfl⟩
 have hK32:K.length≤32:=by rw[hK,Seal.ycw];omega
 have hKl:K.length=32:=by rw[hK,Seal.ycw]
 have I24k:=yh (ybr K hK32)
 have Hold:=yh (yby [] K (by simp) hK32)
 have key:=fun (w1:World) (hb1:Below w.heap.size w w1)=>ygo hRS who w1 h0 h1
 rw[←hK]at key
 have KEY:=yh key
 have HRS:=yh hRS
 have HKl:=yh hKl
 rw[←hK]
 clear hK hK32 key hKl hRS
 obtain⟨R,hR⟩ :∃R,R=Seal.tagL K dom.toNat body.data.toList:=⟨_,rfl⟩
 have hR32:R.length≤32:=by rw[hR,Seal.yeq];omega
 have hRl:R.length=32:=by rw[hR,Seal.yeq]
 have I24:=yh (ybr R hR32)
 have HoldR:=yh (yby [] R (by simp) hR32)
 have hut:IntKind.u8.wrap dom=dom:=by rw[IntKind.wrap_u8];omega
 rw[←hR]
 have HR:=yh hR
 have HRl:=yh hRl
 clear hR hR32 hRl
 go_enter Tryz.func134,Tryz.ntmps134
 go_wp2_with fail
 refine yau ?_
 intro w1 hw1
 have hH:Holds w1 w.heap.size (bRow []):=by rw[hw1];exact Holds.new _ _ _
 have hb1:Below w.heap.size w w1:=by rw[hw1];exact(Below.refl _ _).alloc (Nat.le_refl _) _
 clear hw1
 refine(KEY.out w1 hb1).mono ?_
 rintro e w2 ⟨rfl,hb2⟩
 have HH2:=yh (hH.below hb2 hH.lt)
 have hb2:=hb1.trans (hb2.mono hb1.size)
 have hlt2:=HH2.out.lt
 clear hH
 go_wp2_with (refine yai rfl 62 (.tmp 8) (.tmp 13) rfl w2.heap.size (bRow K) rfl rfl (bRow []) (Holds.new2 rfl rfl) I24k.out Hold.out (ya1 _) ?_; intro w5 hw5
              have H5:=yh (show KeptR w w.heap.size [(w2.heap.size,bRow K)] w5 by
               rw[hw5]
               exact⟨below_setRow (hb2.alloc hb2.size _) hb2.size _,⟨bRow [],ybb [] (by simp),(HH2.out.alloc _).rowFar (by omega) _⟩,fun p hp=>by
                obtain rfl:p=(w2.heap.size,bRow K):=by simpa using hp
                exact(Holds.new2 rfl rfl).row _⟩)
              clear hw5)
 obtain⟨V,hV⟩ :∃V,V=bRow R:=⟨_,rfl⟩
 obtain⟨U,hU⟩ :∃U,U=bRow K:=⟨_,rfl⟩
 have hVs:V.size=32:=by rw[hV,ybb R (by rw[HRl.out];omega)]
 have hUs:U.size=32:=by rw[hU,ybb K (by rw[HKl.out];omega)]
 have hVl:V.toList.length=32:=by simp[hVs]
 have hUl:U.toList.length=32:=by simp[hUs]
 have hV1 :∀v∈V.toList,v.oneCell'=true:=by
  have:=ya1 R
  rw[←hV]at this
  intro v hv
  rw[Array.all_eq_true_iff_forall_mem]at this
  exact this v (Array.mem_toList_iff.1 hv)
 have i24:(Tryz.prog.info? 62).map (·.size)=some 32:=by kernel_rfl
 have hVi:(Tryz.prog.info? 62).map (·.size)=some V.toList.length:=i24.trans (congrArg some hVl.symm)
 have hUi:(Tryz.prog.info? 62).map (·.size)=some U.toList.length:=i24.trans (congrArg some hUl.symm)
 have hu:=Tryz.underlying62
 rw[←hU]at H5
 have hkeep0:KeptR w w.heap.size [(w2.heap.size,U)] w5.drew:=H5.out.drew
 have HV:=yh hV
 have HU:=yh hU
 have HVs:=yh hVs
 have b1 :∀w':World,Calls Tryz.prog 137 #[.agg U] w' fun e w''=>e=.returned (S K)∧Below w'.heap.size w' w'':=fun w'=>by rw[HU.out];exact yks K w' HKl.out
 have hdl:((⟨K.toArray⟩:ByteArray)++(⟨[UInt8.ofNat dom.toNat].toArray⟩:ByteArray)++body).data.toList=K++UInt8.ofNat dom.toNat::body.data.toList:=by rw[ByteArray.data_append,ByteArray.data_append];simp
 have hsz:((⟨K.toArray⟩:ByteArray)++(⟨[UInt8.ofNat dom.toNat].toArray⟩:ByteArray)++body).size=33+body.size:=by
  rw[ByteArray.size_append,ByteArray.size_append]
  show K.length+1+body.size=_
  rw[HKl.out]
 have c1 :∀w':World,Calls Tryz.prog 136 #[.string ((⟨K.toArray⟩:ByteArray)++(⟨[UInt8.ofNat dom.toNat].toArray⟩:ByteArray)++body)] w' fun e w''=>e=.returned (.agg V)∧Below w'.heap.size w' w'':=fun w'=>by
  have:=HRS.out ((⟨K.toArray⟩:ByteArray)++(⟨[UInt8.ofNat dom.toNat].toArray⟩:ByteArray)++body) w' (by rw[hsz];omega)
  rw[hdl]at this
  rw[HV.out,HR.out]
  exact this
 have hg1 :¬(9223372036854775807<K.length+1):=by rw[HKl.out];omega
 have hg2 :¬(9223372036854775807<K.length+1+body.size):=by rw[HKl.out];omega
 have B1:=yh b1
 have C1:=yh c1
 have hsum0 :∀W,KeptR w w.heap.size [(w2.heap.size,U)] W→KeptR w w.heap.size [(w2.heap.size,U)] W:=fun _ h=>h
 clear hV hU hVs hUs i24 b1 c1 hdl hsz hsum0
 have HFar:Hid (∀p∈[(w2.heap.size,U)],p.1≠w.heap.size):=fun p hp=>by
  obtain rfl:p=(w2.heap.size,U):=by simpa using hp
  show w2.heap.size≠w.heap.size
  omega
 refine wp_region_noPanic ?_
 refine wp_region_held_drew (S:=fun w'=>KeptR w w.heap.size [(w2.heap.size,U)] w') (by kernel_rfl) hkeep0 (fun gH=>?_)
 generalize w5.drew=w6 at *
 refine' yl 0 _ rfl (yieldsIf_load_mid (by rfl) _ _ rfl w2.heap.size 0 rfl U.toList _ (fun w' hS=>KeptR.range hS (by simp)) hu rfl hUi) gH ?_
 refine yg 2 (.int .i64 dom) rfl gH ?_
 refine yg 3 (.int .u8 dom) rfl gH ?_
 simp only[Act.put,Ya,Yb,Yc,Yd,Ye,Yf]
 refine yg 7 (.string body) rfl gH ?_
 refine yS 1 4 (by kernel_rfl) rfl rfl (fun K1 hK1=>?_) (fun K1 hK1=>?_)
 · try simp only[Act.put,Ya,Yb,Yc,Yd,Ye,Yf]
   go_simp
   refine Calls.mono (B1.out _) ?_
   rintro e wb ⟨rfl,hbb⟩
   refine hK1.out _ _ (gH.step hbb) (fun gH=>?_)
   clear hK1 K1
   refine yR 4 (by kernel_rfl) rfl (fun K1 hK1=>?_)
   try simp only[Act.put,Ya,Yb,Yc,Yd,Ye,Yf]
   go_simp
   obtain⟨wa,hwa⟩ :∃wa,wa=wb.alloc (.cells #[.int .u8 dom] 5):=⟨_,rfl⟩
   rw[←hwa]
   have hca:wa.cell? ⟨wb.heap.size,0,none⟩=some (.int .u8 dom):=by rw[hwa];simp[go_sem]
   have hla:wb.heap.size<wa.heap.size:=by rw[hwa];simp
   refine hK1.out _ _ ((by rw[hwa];exact gH.alloc _)) (fun gH=>?_)
   clear hK1 K1 hwa
   refine yR 5 (by kernel_rfl) rfl (fun K1 hK1=>?_)
   try simp only[Act.put,Ya,Yb,Yc,Yd,Ye,Yf]
   have hcv:=yd2 wa wb.heap.size dom hca
   go_simp
   clear hcv
   refine hK1.out _ _ (gH) (fun gH=>?_)
   clear hK1 K1
   refine yg 6 (.string ((⟨K.toArray⟩:ByteArray)++(⟨[UInt8.ofNat dom.toNat].toArray⟩:ByteArray))) rfl gH ?_
   refine yg 8 (.string ((⟨K.toArray⟩:ByteArray)++(⟨[UInt8.ofNat dom.toNat].toArray⟩:ByteArray)++body)) rfl gH ?_
   simp only[Act.put,Ya,Yb,Yc,Yd,Ye,Yf]
   refine yR 9 (by kernel_rfl) rfl (fun K1 hK1=>?_)
   try simp only[Act.put,Ya,Yb,Yc,Yd,Ye,Yf]
   go_simp
   refine Calls.mono (C1.out _) ?_
   rintro e wb2 ⟨rfl,hbb2⟩
   refine hK1.out _ _ (gH.step hbb2) (fun gH=>?_)
   clear hK1 K1
   refine yR 10 (by kernel_rfl) rfl (fun K1 hK1=>?_)
   try simp only[Act.put,Ya,Yb,Yc,Yd,Ye,Yf]
   rw[if_pos (by rfl)]
   refine wp_store_mid _ _ _ rfl w.heap.size 0 V rfl rfl (gH.there HVs.out) (by rw[←Array.length_toList];exact hVi) (by rw[HV.out];exact ya1 _) ?_
   have hset:=gH.set HVs.out (Nat.le_refl _) HFar.out
   generalize wb2.setCells w.heap.size 0 V.toList=w9 at *
   have H9:=yh hset.2
   have hset1:=hset.1
   clear hset
   refine hK1.out _ _ (hset1) (fun gH=>?_)
   clear hK1 K1
   refine yR 11 (by kernel_rfl) rfl (fun K1 hK1=>?_)
   try simp only[Act.put,Ya,Yb,Yc,Yd,Ye,Yf]
   try go_simp
   refine hK1.out _ _ (hset1) (fun gH=>?_)
   clear hK1 K1
   refine wpAnyH_done (by kernel_rfl) ?_ _
   refine NoPanic.normal ?_
   have hbe:=hset1.1
   clear hset1 gH
   go_wp2_with fail
   rw[HV.out]at H9
   exact bodyPost_ret (ya2 rfl _ _ w.heap.size (bRow R) _ rfl H9.out Tryz.underlying62 rfl I24.out _ rfl) rfl ⟨rfl,hbe⟩
 · try simp only[Act.put,Ya,Yb,Yc,Yd,Ye,Yf]
   go_simp
   obtain⟨wa,hwa⟩ :∃wa,wa=w6.alloc (.cells #[.int .u8 dom] 5):=⟨_,rfl⟩
   rw[←hwa]
   have hca:wa.cell? ⟨w6.heap.size,0,none⟩=some (.int .u8 dom):=by rw[hwa];simp[go_sem]
   have hla:w6.heap.size<wa.heap.size:=by rw[hwa];simp
   refine hK1.out _ _ ((by rw[hwa];exact gH.alloc _)) (fun gH=>?_)
   clear hK1 K1 hwa
   refine yS 1 5 (by kernel_rfl) rfl rfl (fun K1 hK1=>?_) (fun K1 hK1=>?_)
   · try simp only[Act.put,Ya,Yb,Yc,Yd,Ye,Yf]
     go_simp
     refine Calls.mono (B1.out _) ?_
     rintro e wb ⟨rfl,hbb⟩
     refine hK1.out _ _ (gH.step hbb) (fun gH=>?_)
     clear hK1 K1
     try simp only[Act.put,Ya,Yb,Yc,Yd,Ye,Yf]
     have hca:=(hbb.cell (p:=⟨w6.heap.size,0,none⟩) hla).trans hca
     refine yR 5 (by kernel_rfl) rfl (fun K1 hK1=>?_)
     try simp only[Act.put,Ya,Yb,Yc,Yd,Ye,Yf]
     have hcv:=yd2 wb w6.heap.size dom hca
     go_simp
     clear hcv
     refine hK1.out _ _ (gH) (fun gH=>?_)
     clear hK1 K1
     refine yg 6 (.string ((⟨K.toArray⟩:ByteArray)++(⟨[UInt8.ofNat dom.toNat].toArray⟩:ByteArray))) rfl gH ?_
     refine yg 8 (.string ((⟨K.toArray⟩:ByteArray)++(⟨[UInt8.ofNat dom.toNat].toArray⟩:ByteArray)++body)) rfl gH ?_
     simp only[Act.put,Ya,Yb,Yc,Yd,Ye,Yf]
     refine yR 9 (by kernel_rfl) rfl (fun K1 hK1=>?_)
     try simp only[Act.put,Ya,Yb,Yc,Yd,Ye,Yf]
     go_simp
     refine Calls.mono (C1.out _) ?_
     rintro e wb2 ⟨rfl,hbb2⟩
     refine hK1.out _ _ (gH.step hbb2) (fun gH=>?_)
     clear hK1 K1
     refine yR 10 (by kernel_rfl) rfl (fun K1 hK1=>?_)
     try simp only[Act.put,Ya,Yb,Yc,Yd,Ye,Yf]
     rw[if_pos (by rfl)]
     refine wp_store_mid _ _ _ rfl w.heap.size 0 V rfl rfl (gH.there HVs.out) (by rw[←Array.length_toList];exact hVi) (by rw[HV.out];exact ya1 _) ?_
     have hset:=gH.set HVs.out (Nat.le_refl _) HFar.out
     generalize wb2.setCells w.heap.size 0 V.toList=w9 at *
     have H9:=yh hset.2
     have hset1:=hset.1
     clear hset
     refine hK1.out _ _ (hset1) (fun gH=>?_)
     clear hK1 K1
     refine yR 11 (by kernel_rfl) rfl (fun K1 hK1=>?_)
     try simp only[Act.put,Ya,Yb,Yc,Yd,Ye,Yf]
     try go_simp
     refine hK1.out _ _ (hset1) (fun gH=>?_)
     clear hK1 K1
     refine wpAnyH_done (by kernel_rfl) ?_ _
     refine NoPanic.normal ?_
     have hbe:=hset1.1
     clear hset1 gH
     go_wp2_with fail
     rw[HV.out]at H9
     exact bodyPost_ret (ya2 rfl _ _ w.heap.size (bRow R) _ rfl H9.out Tryz.underlying62 rfl I24.out _ rfl) rfl ⟨rfl,hbe⟩
   · try simp only[Act.put,Ya,Yb,Yc,Yd,Ye,Yf]
     have hcv:=yd2 wa w6.heap.size dom hca
     go_simp
     clear hcv
     refine hK1.out _ _ (gH) (fun gH=>?_)
     clear hK1 K1
     refine yR 1 (by kernel_rfl) rfl (fun K1 hK1=>?_)
     try simp only[Act.put,Ya,Yb,Yc,Yd,Ye,Yf]
     go_simp
     refine Calls.mono (B1.out _) ?_
     rintro e wb ⟨rfl,hbb⟩
     refine hK1.out _ _ (gH.step hbb) (fun gH=>?_)
     clear hK1 K1
     refine yg 6 (.string ((⟨K.toArray⟩:ByteArray)++(⟨[UInt8.ofNat dom.toNat].toArray⟩:ByteArray))) rfl gH ?_
     refine yg 8 (.string ((⟨K.toArray⟩:ByteArray)++(⟨[UInt8.ofNat dom.toNat].toArray⟩:ByteArray)++body)) rfl gH ?_
     simp only[Act.put,Ya,Yb,Yc,Yd,Ye,Yf]
     refine yR 9 (by kernel_rfl) rfl (fun K1 hK1=>?_)
     try simp only[Act.put,Ya,Yb,Yc,Yd,Ye,Yf]
     go_simp
     refine Calls.mono (C1.out _) ?_
     rintro e wb2 ⟨rfl,hbb2⟩
     refine hK1.out _ _ (gH.step hbb2) (fun gH=>?_)
     clear hK1 K1
     refine yR 10 (by kernel_rfl) rfl (fun K1 hK1=>?_)
     try simp only[Act.put,Ya,Yb,Yc,Yd,Ye,Yf]
     rw[if_pos (by rfl)]
     refine wp_store_mid _ _ _ rfl w.heap.size 0 V rfl rfl (gH.there HVs.out) (by rw[←Array.length_toList];exact hVi) (by rw[HV.out];exact ya1 _) ?_
     have hset:=gH.set HVs.out (Nat.le_refl _) HFar.out
     generalize wb2.setCells w.heap.size 0 V.toList=w9 at *
     have H9:=yh hset.2
     have hset1:=hset.1
     clear hset
     refine hK1.out _ _ (hset1) (fun gH=>?_)
     clear hK1 K1
     refine yR 11 (by kernel_rfl) rfl (fun K1 hK1=>?_)
     try simp only[Act.put,Ya,Yb,Yc,Yd,Ye,Yf]
     try go_simp
     refine hK1.out _ _ (hset1) (fun gH=>?_)
     clear hK1 K1
     refine wpAnyH_done (by kernel_rfl) ?_ _
     refine NoPanic.normal ?_
     have hbe:=hset1.1
     clear hset1 gH
     go_wp2_with fail
     rw[HV.out]at H9
     exact bodyPost_ret (ya2 rfl _ _ w.heap.size (bRow R) _ rfl H9.out Tryz.underlying62 rfl I24.out _ rfl) rfl ⟨rfl,hbe⟩
theorem ynx (hRS:RefSum)(who dom:Int)(body:ByteArray)(w:World)(hs:body.size≤140737488354900):
 Calls Tryz.prog 134 #[.int .i64 who,.int .i64 dom,.string body] w fun e w'=>e=.returned (HN (Seal.tag who dom body.data.toList).1 (Seal.tag who dom body.data.toList).2)∧Below w.heap.size w w':=by
 unfold Seal.tag
 by_cases h:who<0∨64<who
 · rw[if_pos h];exact ynv who dom body w h
 · rw[if_neg h]
   by_cases h2:dom<1∨4<dom
   · rw[if_pos h2];exact ynw hRS who dom body w (by omega) (by omega) h2
   · rw[if_neg h2];exact ynu hRS who dom body w (by omega) (by omega) (by omega) (by omega) hs
end
section
open Go.RowKit
namespace Seal
def check2 (who dom:Int)(body t:List UInt8):Int:=if (tag who dom body).2≠0 then (tag who dom body).2 else if (tag who dom body).1≠t then 21 else 0
end Seal
theorem yr0 (who dom:Int)(body:ByteArray)(t:List UInt8)(w:World)(hT:Tab w)(ht:t.length=32)(hs:body.size≤140737488354900):
 Calls Tryz.prog 183 #[.int .i64 who,.int .i64 dom,.string body,.agg (bRow t)] w fun e w'=>e=.returned (.int .i64 (Seal.check2 who dom body.data.toList t))∧Below w.heap.size w w':=by
 have hlen:=Seal.ypi who dom body.data.toList
 have tagc:=fun (w1:World) (hb:Below w.heap.size w w1)=>yve who dom body w1 (hT.below hb hT.pos) (by omega)
 unfold Seal.check2
 generalize (Seal.tag who dom body.data.toList).1=R at *
 generalize (Seal.tag who dom body.data.toList).2=e0 at *
 have heqs :∀W,(Op.equalIn 10000 62 (.agg (bRow R)) (.agg (bRow t))).run Tryz.prog W=.ok (decide (R=t)) W:=fun W=>yei W R t hlen ht
 have I24:=yh (ybr R (by omega))
 have I24t:=yh (ybr t (by omega))
 have Hold:=yh (yby [] R (by simp) (by omega))
 have TAG:=yh tagc
 clear tagc hlen ht hT
 by_cases he:e0=0
 · have hb:(e0 != 0)=false:=by simp[he]
   by_cases hR:R=t
   · have hd:decide (R=t)=true:=by simp[hR]
     rw[if_neg (by simpa using he),if_neg (by simpa using hR)]
     have HE:=yh he
     have HR:=yh hR
     clear he hR
     go_enter Tryz.func183,Tryz.ntmps183
     go_wp2_with fail
     refine yau ?_
     intro w1 hw1
     have hH:Holds w1 w.heap.size (bRow t):=by rw[hw1];exact Holds.new _ _ _
     have hb1:Below w.heap.size w w1:=by rw[hw1];exact(Below.refl _ _).alloc (Nat.le_refl _) _
     clear hw1
     refine(TAG.out w1 hb1).mono ?_
     rintro e w2 ⟨rfl,hb2⟩
     have hH2:=hH.below hb2 hH.lt
     have HH2:=yh hH2
     have hb2:=hb1.trans (hb2.mono hb1.size)
     have hlt:=hH2.lt
     clear hH hH2
     go_wp2_with (first
      | (refine yai rfl 62 (.tmp 9) (.tmp 16) rfl w2.heap.size (bRow R) rfl rfl (bRow []) (Holds.new2 rfl rfl) I24.out Hold.out (ya1 _) ?_; intro w5 hw5
         obtain⟨T5,hT5⟩:=(show Holds w5 w2.heap.size (bRow R) by rw[hw5];exact(Holds.new2 rfl rfl).row _)
         obtain⟨T6,hT6⟩:=(show Holds w5 w.heap.size (bRow t) by rw[hw5];exact(HH2.out.alloc _).rowFar (by omega) _)
         have G5:=yh hT5
         have G6:=yh hT6
         have hb5:=(show Below w.heap.size w w5 by rw[hw5];exact below_setRow (hb2.alloc hb2.size _) hb2.size _)
         clear hw5 hT5 hT6)
      | (refine wpList_load_row rfl 62 (.tmp 9) rfl w2.heap.size rfl T5 _ (0,0) _ G5.out Tryz.underlying62 rfl I24.out ?_)
      | (refine wpList_load_row rfl 62 (.tmp 7) rfl w.heap.size rfl T6 _ (0,0) _ G6.out Tryz.underlying62 rfl I24t.out ?_))
     go_ret
     exact⟨rfl,hb5⟩
   · have hd:decide (R=t)=false:=by simp[hR]
     rw[if_neg (by simpa using he),if_pos hR]
     have HE:=yh he
     have HR:=yh hR
     clear he hR
     go_enter Tryz.func183,Tryz.ntmps183
     go_wp2_with fail
     refine yau ?_
     intro w1 hw1
     have hH:Holds w1 w.heap.size (bRow t):=by rw[hw1];exact Holds.new _ _ _
     have hb1:Below w.heap.size w w1:=by rw[hw1];exact(Below.refl _ _).alloc (Nat.le_refl _) _
     clear hw1
     refine(TAG.out w1 hb1).mono ?_
     rintro e w2 ⟨rfl,hb2⟩
     have hH2:=hH.below hb2 hH.lt
     have HH2:=yh hH2
     have hb2:=hb1.trans (hb2.mono hb1.size)
     have hlt:=hH2.lt
     clear hH hH2
     go_wp2_with (first
      | (refine yai rfl 62 (.tmp 9) (.tmp 16) rfl w2.heap.size (bRow R) rfl rfl (bRow []) (Holds.new2 rfl rfl) I24.out Hold.out (ya1 _) ?_; intro w5 hw5
         obtain⟨T5,hT5⟩:=(show Holds w5 w2.heap.size (bRow R) by rw[hw5];exact(Holds.new2 rfl rfl).row _)
         obtain⟨T6,hT6⟩:=(show Holds w5 w.heap.size (bRow t) by rw[hw5];exact(HH2.out.alloc _).rowFar (by omega) _)
         have G5:=yh hT5
         have G6:=yh hT6
         have hb5:=(show Below w.heap.size w w5 by rw[hw5];exact below_setRow (hb2.alloc hb2.size _) hb2.size _)
         clear hw5 hT5 hT6)
      | (refine wpList_load_row rfl 62 (.tmp 9) rfl w2.heap.size rfl T5 _ (0,0) _ G5.out Tryz.underlying62 rfl I24.out ?_)
      | (refine wpList_load_row rfl 62 (.tmp 7) rfl w.heap.size rfl T6 _ (0,0) _ G6.out Tryz.underlying62 rfl I24t.out ?_))
     go_ret
     exact⟨rfl,hb5⟩
 · have hb:(e0 != 0)=true:=by simpa using he
   rw[if_pos he]
   have HE:=yh he
   clear he
   go_enter Tryz.func183,Tryz.ntmps183
   go_wp2_with fail
   refine yau ?_
   intro w1 hw1
   have hH:Holds w1 w.heap.size (bRow t):=by rw[hw1];exact Holds.new _ _ _
   have hb1:Below w.heap.size w w1:=by rw[hw1];exact(Below.refl _ _).alloc (Nat.le_refl _) _
   clear hw1
   refine(TAG.out w1 hb1).mono ?_
   rintro e w2 ⟨rfl,hb2⟩
   have hH2:=hH.below hb2 hH.lt
   have HH2:=yh hH2
   have hb2:=hb1.trans (hb2.mono hb1.size)
   have hlt:=hH2.lt
   clear hH hH2
   go_wp2_with (first
    | (refine yai rfl 62 (.tmp 9) (.tmp 16) rfl w2.heap.size (bRow R) rfl rfl (bRow []) (Holds.new2 rfl rfl) I24.out Hold.out (ya1 _) ?_; intro w5 hw5
       obtain⟨T5,hT5⟩:=(show Holds w5 w2.heap.size (bRow R) by rw[hw5];exact(Holds.new2 rfl rfl).row _)
       obtain⟨T6,hT6⟩:=(show Holds w5 w.heap.size (bRow t) by rw[hw5];exact(HH2.out.alloc _).rowFar (by omega) _)
       have G5:=yh hT5
       have G6:=yh hT6
       have hb5:=(show Below w.heap.size w w5 by rw[hw5];exact below_setRow (hb2.alloc hb2.size _) hb2.size _)
       clear hw5 hT5 hT6)
    | (refine wpList_load_row rfl 62 (.tmp 9) rfl w2.heap.size rfl T5 _ (0,0) _ G5.out Tryz.underlying62 rfl I24.out ?_)
    | (refine wpList_load_row rfl 62 (.tmp 7) rfl w.heap.size rfl T6 _ (0,0) _ G6.out Tryz.underlying62 rfl I24t.out ?_))
   go_ret
   exact⟨rfl,hb5⟩
theorem yjz (hRS:RefSum)(who dom:Int)(body:ByteArray)(t:List UInt8)(w:World)(ht:t.length=32)(hs:body.size≤140737488354900):
 Calls Tryz.prog 97 #[.int .i64 who,.int .i64 dom,.string body,.agg (bRow t)] w fun e w'=>e=.returned (.int .i64 (Seal.check2 who dom body.data.toList t))∧Below w.heap.size w w':=by
 have hlen:=Seal.ypi who dom body.data.toList
 have tagc:=fun (w1:World) (hb:Below w.heap.size w w1)=>ynx hRS who dom body w1 hs
 unfold Seal.check2
 generalize (Seal.tag who dom body.data.toList).1=R at *
 generalize (Seal.tag who dom body.data.toList).2=e0 at *
 have heqs :∀W,(Op.equalIn 10000 62 (.agg (bRow R)) (.agg (bRow t))).run Tryz.prog W=.ok (decide (R=t)) W:=fun W=>yei W R t hlen ht
 have I24:=yh (ybr R (by omega))
 have I24t:=yh (ybr t (by omega))
 have Hold:=yh (yby [] R (by simp) (by omega))
 have TAG:=yh tagc
 clear tagc hlen ht hRS
 by_cases he:e0=0
 · have hb:(e0 != 0)=false:=by simp[he]
   by_cases hR:R=t
   · have hd:decide (R=t)=true:=by simp[hR]
     rw[if_neg (by simpa using he),if_neg (by simpa using hR)]
     have HE:=yh he
     have HR:=yh hR
     clear he hR
     go_enter Tryz.func97,Tryz.ntmps97
     go_wp2_with fail
     refine yau ?_
     intro w1 hw1
     have hH:Holds w1 w.heap.size (bRow t):=by rw[hw1];exact Holds.new _ _ _
     have hb1:Below w.heap.size w w1:=by rw[hw1];exact(Below.refl _ _).alloc (Nat.le_refl _) _
     clear hw1
     refine(TAG.out w1 hb1).mono ?_
     rintro e w2 ⟨rfl,hb2⟩
     have hH2:=hH.below hb2 hH.lt
     have HH2:=yh hH2
     have hb2:=hb1.trans (hb2.mono hb1.size)
     have hlt:=hH2.lt
     clear hH hH2
     go_wp2_with (first
      | (refine yai rfl 62 (.tmp 9) (.tmp 16) rfl w2.heap.size (bRow R) rfl rfl (bRow []) (Holds.new2 rfl rfl) I24.out Hold.out (ya1 _) ?_; intro w5 hw5
         obtain⟨T5,hT5⟩:=(show Holds w5 w2.heap.size (bRow R) by rw[hw5];exact(Holds.new2 rfl rfl).row _)
         obtain⟨T6,hT6⟩:=(show Holds w5 w.heap.size (bRow t) by rw[hw5];exact(HH2.out.alloc _).rowFar (by omega) _)
         have G5:=yh hT5
         have G6:=yh hT6
         have hb5:=(show Below w.heap.size w w5 by rw[hw5];exact below_setRow (hb2.alloc hb2.size _) hb2.size _)
         clear hw5 hT5 hT6)
      | (refine wpList_load_row rfl 62 (.tmp 9) rfl w2.heap.size rfl T5 _ (0,0) _ G5.out Tryz.underlying62 rfl I24.out ?_)
      | (refine wpList_load_row rfl 62 (.tmp 7) rfl w.heap.size rfl T6 _ (0,0) _ G6.out Tryz.underlying62 rfl I24t.out ?_))
     go_ret
     exact⟨rfl,hb5⟩
   · have hd:decide (R=t)=false:=by simp[hR]
     rw[if_neg (by simpa using he),if_pos hR]
     have HE:=yh he
     have HR:=yh hR
     clear he hR
     go_enter Tryz.func97,Tryz.ntmps97
     go_wp2_with fail
     refine yau ?_
     intro w1 hw1
     have hH:Holds w1 w.heap.size (bRow t):=by rw[hw1];exact Holds.new _ _ _
     have hb1:Below w.heap.size w w1:=by rw[hw1];exact(Below.refl _ _).alloc (Nat.le_refl _) _
     clear hw1
     refine(TAG.out w1 hb1).mono ?_
     rintro e w2 ⟨rfl,hb2⟩
     have hH2:=hH.below hb2 hH.lt
     have HH2:=yh hH2
     have hb2:=hb1.trans (hb2.mono hb1.size)
     have hlt:=hH2.lt
     clear hH hH2
     go_wp2_with (first
      | (refine yai rfl 62 (.tmp 9) (.tmp 16) rfl w2.heap.size (bRow R) rfl rfl (bRow []) (Holds.new2 rfl rfl) I24.out Hold.out (ya1 _) ?_; intro w5 hw5
         obtain⟨T5,hT5⟩:=(show Holds w5 w2.heap.size (bRow R) by rw[hw5];exact(Holds.new2 rfl rfl).row _)
         obtain⟨T6,hT6⟩:=(show Holds w5 w.heap.size (bRow t) by rw[hw5];exact(HH2.out.alloc _).rowFar (by omega) _)
         have G5:=yh hT5
         have G6:=yh hT6
         have hb5:=(show Below w.heap.size w w5 by rw[hw5];exact below_setRow (hb2.alloc hb2.size _) hb2.size _)
         clear hw5 hT5 hT6)
      | (refine wpList_load_row rfl 62 (.tmp 9) rfl w2.heap.size rfl T5 _ (0,0) _ G5.out Tryz.underlying62 rfl I24.out ?_)
      | (refine wpList_load_row rfl 62 (.tmp 7) rfl w.heap.size rfl T6 _ (0,0) _ G6.out Tryz.underlying62 rfl I24t.out ?_))
     go_ret
     exact⟨rfl,hb5⟩
 · have hb:(e0 != 0)=true:=by simpa using he
   rw[if_pos he]
   have HE:=yh he
   clear he
   go_enter Tryz.func97,Tryz.ntmps97
   go_wp2_with fail
   refine yau ?_
   intro w1 hw1
   have hH:Holds w1 w.heap.size (bRow t):=by rw[hw1];exact Holds.new _ _ _
   have hb1:Below w.heap.size w w1:=by rw[hw1];exact(Below.refl _ _).alloc (Nat.le_refl _) _
   clear hw1
   refine(TAG.out w1 hb1).mono ?_
   rintro e w2 ⟨rfl,hb2⟩
   have hH2:=hH.below hb2 hH.lt
   have HH2:=yh hH2
   have hb2:=hb1.trans (hb2.mono hb1.size)
   have hlt:=hH2.lt
   clear hH hH2
   go_wp2_with (first
    | (refine yai rfl 62 (.tmp 9) (.tmp 16) rfl w2.heap.size (bRow R) rfl rfl (bRow []) (Holds.new2 rfl rfl) I24.out Hold.out (ya1 _) ?_; intro w5 hw5
       obtain⟨T5,hT5⟩:=(show Holds w5 w2.heap.size (bRow R) by rw[hw5];exact(Holds.new2 rfl rfl).row _)
       obtain⟨T6,hT6⟩:=(show Holds w5 w.heap.size (bRow t) by rw[hw5];exact(HH2.out.alloc _).rowFar (by omega) _)
       have G5:=yh hT5
       have G6:=yh hT6
       have hb5:=(show Below w.heap.size w w5 by rw[hw5];exact below_setRow (hb2.alloc hb2.size _) hb2.size _)
       clear hw5 hT5 hT6)
    | (refine wpList_load_row rfl 62 (.tmp 9) rfl w2.heap.size rfl T5 _ (0,0) _ G5.out Tryz.underlying62 rfl I24.out ?_)
    | (refine wpList_load_row rfl 62 (.tmp 7) rfl w.heap.size rfl T6 _ (0,0) _ G6.out Tryz.underlying62 rfl I24t.out ?_))
   go_ret
   exact⟨rfl,hb5⟩
end
end Go.Proofs.YtalfnadejpmjnaaGreatDoor
