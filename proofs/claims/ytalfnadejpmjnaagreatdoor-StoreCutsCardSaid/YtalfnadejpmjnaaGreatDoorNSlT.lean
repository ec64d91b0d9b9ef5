/- A part. -/
import Derived.Test.YtalfnadejpmjnaaGreatDoorNSlS
import Derived.Laws.ResultCell
import Derived.DeepKeys
import Derived.Shelf.Small.Bits
import Derived.Deep.RegionHeld3
import Derived.OneCell
import Derived.Maps.AppendAt
import Derived.Maps.Range
import Derived.Great.BuildSlice
import Derived.Deep.MidRow
set_option linter.unusedVariables false
set_option linter.unusedSimpArgs false
set_option maxRecDepth 100000
set_option maxHeartbeats 25600000
namespace Go.Proofs.YtalfnadejpmjnaaGreatDoor
section
open Go.RowKit
namespace Sha
theorem ygk (s:St)(l m:List UInt8) :∀n,64*n≤l.length→runs s (l++m) n=runs s l n
 | 0,_=>rfl
 | n+1,h=>by
   simp only[runs]
   rw[ygk s l m n (by omega),List.drop_append_of_le_length (by omega),List.take_append_of_le_length (by rw[List.length_drop];omega)]
theorem ymk (s:St)(l m:List UInt8)(n:Nat)(h:l.length=64*n) :∀k,runs s (l++m) (n+k)=runs (runs s l n) m k
 | 0=>ygk s l m n (by omega)
 | k+1=>by
   rw[←Nat.add_assoc]
   simp only[runs]
   rw[ymk s l m n h k,Nat.mul_add,←h,←List.drop_drop,List.drop_left]
end Sha
theorem yn2 (r:List UInt8)(n:Nat)(h:r.length<64):(padded r n).length=if r.length+9>64 then 128 else 64:=by
 unfold padded
 simp only[List.length_append,List.length_cons,List.length_replicate,Sha.yf1]
 split <;> omega
theorem yqb (l:List UInt8)(n:Nat)(hn:n=l.length / 64):Sha.pad l=l.take (64*n)++padded (l.drop (64*n)) l.length:=by
 unfold Sha.pad padded
 have hl:(l.drop (64*n)).length=l.length%64:=by rw[List.length_drop];omega
 have e:(if (l.drop (64*n)).length+9>64 then 128 else 64)-(l.drop (64*n)).length-9=(119-l.length%64)%64:=by
  rw[hl];split <;> omega
 rw[e,←List.append_assoc,List.take_append_drop]
theorem ypk (l:List UInt8)(n k:Nat)(hn:n=l.length / 64)(hk:64*k=(padded (l.drop (64*n)) l.length).length):
 Sha.sum l=Sha.bytes (Sha.runs (Sha.runs Sha.start l n) (padded (l.drop (64*n)) l.length) k):=by
 have h1:(l.take (64*n)).length=64*n:=by rw[List.length_take];omega
 have h2:Sha.runs Sha.start l n=Sha.runs Sha.start (l.take (64*n)) n:=by
  conv=>lhs;rw[←List.take_append_drop (64*n) l]
  exact Sha.ygk _ _ _ n (by omega)
 unfold Sha.sum
 rw[h2,←Sha.ymk _ _ _ n h1 k,yqb l n hn]
 congr 2
 rw[List.length_append,h1,←hk]
 omega
theorem yb9 {P:Program}{id:Nat}{Q:Exit→Act→World→Prop}{a:Act}{w:World}{l:List Oper}(n:Nat)(hm:P.follows .mixedOrders=true)(hB:Region.lexTailB .any l.toArray n=true)
 (h :∀w',w'=w.drew→wpStill P l.toArray w' (fun a'=>wpList P l.toArray Q (l.drop n) a' w') (l.take n) a):(Code.region id l.toArray true).wp P Q a w:=
 wp_region_still_tail n hm hB (h _ rfl)
theorem yjq (a b:Sha.St):(st8 a).size=(st8 b).size:=by unfold st8;rfl
theorem ysq {P:Program}(t:TypeId)(ht:P.underlying t=some .string)(s:ByteArray)(k:Nat)(h:k≤s.size)(W:World):
 (Instr.slice t (.string s) (some (.int .i64 (k:Int))) none none).run P W=.ok (S (s.data.toList.drop k)) W:=by
 rw[run_slice_string_l W t s ht .i64 _ (by omega) (by omega),Int.toNat_natCast]
 have e:s.data.toList.length=s.size:=rfl
 have h2:k+(s.size-k)=s.size:=by omega
 conv=>lhs;rw[←h2]
 rw[yc9,List.take_of_length_le (by rw[List.length_drop,e];omega)]
theorem ymh (st:Sha.St)(s:ByteArray)(k:Nat)(w:World)(hT:Tab w)(hst:st.ok)(hs:64*(k+1)≤s.size):
 Calls Tryz.prog 186 #[.agg (st8 st),S ((s.data.toList.drop (64*k)).take 64)] w fun e w'=>e=.returned (.agg (st8 (Sha.step st ((s.data.toList.drop (64*k)).take 64))))∧Below w.heap.size w w':=by
 have e:s.data.toList.length=s.size:=rfl
 refine ysj st _ w hT hst ?_
 show ((s.data.toList.drop (64*k)).take 64).toArray.size=64
 simp only[List.size_toArray,List.length_take,List.length_drop,e]
 omega
theorem yk5 (s:ByteArray)(w:World)(hT:Tab w)(hs:s.size≤1152921504606846975):
 Calls Tryz.prog 175 #[.string s] w fun e w'=>e=.returned (.agg (bRow (Sha.sum s.data.toList)))∧Below w.heap.size w w':=by
 have HT:=yh hT
 have hpos:=hT.pos
 have i58:(Tryz.prog.info? 225).map (·.size)=some 8:=by kernel_rfl
 have I58:=yh i58
 have i24:(Tryz.prog.info? 62).map (·.size)=some 32:=by kernel_rfl
 have I24:=yh i24
 have hnn:(s.size:Int)≤1152921504606846975:=by omega
 have hmod:(s.size:Int)-(s.size:Int)%64=((64*(s.size / 64):Nat):Int):=by omega
 clear i58 i24 hT
 go_enter Tryz.func175,Tryz.ntmps175
 go_wp2_with fail
 refine(ypm _).mono ?_
 rintro e w1 ⟨rfl,hb1⟩
 go_wp2_with (refine yai rfl 225 (.tmp 3) (.tmp 8) rfl w1.heap.size _ rfl rfl (st8 ⟨0,0,0,0,0,0,0,0⟩) (Holds.new2 rfl rfl) I58.out rfl (ygj _) ?_;intro wA hwA;have HwA:=yh hwA;clear hwA)
 have hwA:=HwA.out
 have hB0:Below w.heap.size w w1:=((Below.refl _ _).alloc (Nat.le_refl _) _).trans (hb1.mono (by simp))
 have hlt1:w.heap.size<w1.heap.size:=by have:=hb1.size;simp at this;omega
 have hBA:Below w.heap.size w wA:=by rw[hwA];exact below_setRow (hB0.alloc hB0.size _) hB0.size _
 have hR:Holds wA w.heap.size (bRow []):=by
  rw[hwA]
  exact(((Holds.new2 rfl rfl).below hb1 (by simp)).alloc _).rowFar (by omega) _
 have hN:Holds wA w1.heap.size (st8 Sha.start):=by
  rw[hwA]
  exact(Holds.new _ _ _).row _
 clear hwA HwA hb1 hB0
 generalize hg:w1.heap.size=g at *
 clear hg
 go_loopw [5] (fun i wr =>∃k:Nat,k≤s.size / 64∧i=.int .i64 (64*(k:Int))∧Holds wr w.heap.size (bRow [])∧Holds wr g (st8 (Sha.runs Sha.start s.data.toList k))∧Below w.heap.size w wr) (fun i _=>s.size-(intOf i).toNat)
 case atStart=>exact⟨0,by omega,rfl,hR,hN,hBA⟩
 case round=>
  clear hR hN hBA
  obtain⟨k,hk,rfl,hR,hN,hb⟩:=hrel
  have HR:=yh hR
  have HN:=yh hN
  clear hR hN
  by_cases hlt:k<s.size / 64
  · have hlt2:(k:Int)<(s.size:Int) / 64:=by omega
    have hwr1:IntKind.i64.wrap (64*(k:Int)+64)=64*(k:Int)+64:=by rw[IntKind.wrap_i64];omega
    go_wp2_with fail
    refine yb9 6 (by kernel_rfl) (by kernel_rfl) ?_
    intro wd hwd
    have HR2:=yh (show Holds wd w.heap.size (bRow []) from by rw[hwd];exact HR.out.drew)
    have HN2:=yh (show Holds wd g (st8 (Sha.runs Sha.start s.data.toList k)) from by rw[hwd];exact HN.out.drew)
    have hbd:Below w.heap.size w wd:=by rw[hwd];exact hb.drew
    clear HR HN hb hwd
    obtain⟨X,hX⟩ :∃X,X=Sha.runs Sha.start s.data.toList k:=⟨_,rfl⟩
    have HX:=yh hX
    clear hX
    have c0:wd.cell? ⟨g,0,none⟩=some (.int .u32 (X.a:Nat)):=by rw[HN2.out.cell 0,HX.out];rfl
    have c1:wd.cell? ⟨g,1,none⟩=some (.int .u32 (X.b:Nat)):=by rw[HN2.out.cell 1,HX.out];rfl
    have c2:wd.cell? ⟨g,2,none⟩=some (.int .u32 (X.c:Nat)):=by rw[HN2.out.cell 2,HX.out];rfl
    have c3:wd.cell? ⟨g,3,none⟩=some (.int .u32 (X.d:Nat)):=by rw[HN2.out.cell 3,HX.out];rfl
    have c4:wd.cell? ⟨g,4,none⟩=some (.int .u32 (X.e:Nat)):=by rw[HN2.out.cell 4,HX.out];rfl
    have c5:wd.cell? ⟨g,5,none⟩=some (.int .u32 (X.f:Nat)):=by rw[HN2.out.cell 5,HX.out];rfl
    have c6:wd.cell? ⟨g,6,none⟩=some (.int .u32 (X.g:Nat)):=by rw[HN2.out.cell 6,HX.out];rfl
    have c7:wd.cell? ⟨g,7,none⟩=some (.int .u32 (X.h:Nat)):=by rw[HN2.out.cell 7,HX.out];rfl
    have hcut:(Instr.slice 9 (.string s) (some (.int .i64 (64*(k:Int)))) (some (.int .i64 (64*(k:Int)+64))) none).run Tryz.prog wd=.ok (S ((s.data.toList.drop (64*k)).take 64)) wd:=by
     have:=yek (P:=Tryz.prog) 9 Tryz.underlying9 s (64*k) 64 (by omega) wd
     rw[←this];simp
    simp only[List.take_succ_cons,List.take_zero,List.drop_succ_cons,List.drop_zero]
    repeat still_step
    refine wpStill_nil ?_
    have HTd:=yh (HT.out.below hbd hpos)
    have Hok:=yh (show X.ok by rw[HX.out];exact Sha.yef _ Sha.yer k)
    clear c0 c1 c2 c3 c4 c5 c6 c7 hcut
    go_wp2_with fail
    refine(ymh X s k wd HTd.out Hok.out (by omega)).mono ?_
    rintro e w2 ⟨rfl,hb2⟩
    have hg2:=HN2.out.lt
    have hg1:=HR2.out.lt
    have HR3:=yh (HR2.out.below hb2 hg1)
    have HN3:=yh (HN2.out.below hb2 hg2)
    go_wp2_with (refine yai rfl 225 (.tmp 3) (.tmp 26) rfl g _ rfl rfl _ HN3.out I58.out (yjq _ _) (ygj _) ?_;intro wE hwE;have HwE:=yh hwE;clear hwE)
    have hwE:=HwE.out
    refine⟨⟨k+1,by omega,by go_num,?_,?_,?_⟩,by simp only[intOf];omega⟩
    · rw[hwE];exact HR3.out.rowFar (by omega) _
    · rw[hwE]
      have:=HN3.out.row (st8 (Sha.step X (List.take 64 (List.drop (64*k) s.data.toList))))
      rw[HX.out]at this
      rw[HX.out]
      exact this
    · rw[hwE];exact below_setRow (hbd.trans (hb2.mono hbd.size)) (by omega) _
  · have ek:k=s.size / 64:=by omega
    subst ek
    clear hk hlt
    have hcut2 :∀W,(Instr.slice 9 (.string s) (some (.int .i64 (64*((s.size:Int) / 64)))) none none).run Tryz.prog W=.ok (S (s.data.toList.drop (64*(s.size / 64)))) W:=by
     intro W
     have:=ysq (P:=Tryz.prog) 9 Tryz.underlying9 s (64*(s.size / 64)) (by omega) W
     rw[←this];simp
    obtain⟨n,hn⟩ :∃n,n=s.size / 64:=⟨_,rfl⟩
    have el:s.data.toList.length=s.size:=rfl
    have hrl:(s.data.toList.drop (64*n)).length<64:=by rw[List.length_drop,el];omega
    obtain⟨E,hE⟩ :∃E:ByteArray,E=⟨(padded (s.data.toList.drop (64*n)) s.size).toArray⟩:=⟨_,rfl⟩
    have hEl:E.data.toList=padded (s.data.toList.drop (64*n)) s.size:=by rw[hE]
    have hEz:E.size=(padded (s.data.toList.drop (64*n)) s.size).length:=by rw[hE];rfl
    have hLl:=yn2 (s.data.toList.drop (64*n)) s.size hrl
    rw[←hEz]at hLl
    have hL2:E.size≤128:=by rw[hLl];split <;> omega
    have hL3:E.size%64=0:=by rw[hLl];split <;> rfl
    have hsum:=ypk s.data.toList n (E.size / 64) (by rw[el];exact hn) (by rw[el,←hEz];omega)
    rw[el,←hEl]at hsum
    have hpad:=yn3 ⟨(s.data.toList.drop (64*n)).toArray⟩ s.size wr hrl hs
    change Calls Tryz.prog 187 #[S (s.data.toList.drop (64*n)),.int .i64 s.size] wr (fun e w'=>e=.returned (.string ⟨(padded (s.data.toList.drop (64*n)) s.size).toArray⟩)∧Below wr.heap.size wr w')at hpad
    rw[←hE]at hpad
    have Hpad:=yh hpad
    have Hsum:=yh hsum
    rw[←hn]at hcut2 HN
    clear hpad hsum hE hEl hEz hLl hrl el
    go_wp2_with fail
    rw[←hn]
    refine Hpad.out.mono ?_
    rintro e w2 ⟨rfl,hb2⟩
    have hR:=HR.out.below hb2 HR.out.lt
    have hN:=HN.out.below hb2 HN.out.lt
    have hb:=hb.trans (hb2.mono hb.size)
    have HN:=yh hN
    have HR:=yh hR
    have Hcut2:=yh hcut2
    clear hcut2 hN hR
    go_wp2_with fail
    go_loopw [7] (fun i wr =>∃k:Nat,k≤E.size / 64∧i=.int .i64 (64*(k:Int))∧Holds wr w.heap.size (bRow [])∧Holds wr g (st8 (Sha.runs (Sha.runs Sha.start s.data.toList n) E.data.toList k))∧Below w.heap.size w wr) (fun i _=>E.size-(intOf i).toNat)
    case atStart=>exact⟨0,by omega,rfl,HR.out,HN.out,hb⟩
    case round=>
     clear HR HN hb
     obtain⟨k,hk,rfl,hR,hN,hb⟩:=hrel
     have HR:=yh hR
     have HN:=yh hN
     clear hR hN
     by_cases hlt:k<E.size / 64
     · have hlt2:64*(k:Int)<(E.size:Int):=by omega
       have hwr1:IntKind.i64.wrap (64*(k:Int)+64)=64*(k:Int)+64:=by rw[IntKind.wrap_i64];omega
       go_wp2_with fail
       refine yb9 6 (by kernel_rfl) (by kernel_rfl) ?_
       intro wd hwd
       have HR2:=yh (show Holds wd w.heap.size (bRow []) from by rw[hwd];exact HR.out.drew)
       have HN2:=yh (show Holds wd g (st8 (Sha.runs (Sha.runs Sha.start s.data.toList n) E.data.toList k)) from by rw[hwd];exact HN.out.drew)
       have hbd:Below w.heap.size w wd:=by rw[hwd];exact hb.drew
       clear HR HN hb hwd
       obtain⟨X,hX⟩ :∃X,X=Sha.runs (Sha.runs Sha.start s.data.toList n) E.data.toList k:=⟨_,rfl⟩
       have HX:=yh hX
       clear hX
       have c0:wd.cell? ⟨g,0,none⟩=some (.int .u32 (X.a:Nat)):=by rw[HN2.out.cell 0,HX.out];rfl
       have c1:wd.cell? ⟨g,1,none⟩=some (.int .u32 (X.b:Nat)):=by rw[HN2.out.cell 1,HX.out];rfl
       have c2:wd.cell? ⟨g,2,none⟩=some (.int .u32 (X.c:Nat)):=by rw[HN2.out.cell 2,HX.out];rfl
       have c3:wd.cell? ⟨g,3,none⟩=some (.int .u32 (X.d:Nat)):=by rw[HN2.out.cell 3,HX.out];rfl
       have c4:wd.cell? ⟨g,4,none⟩=some (.int .u32 (X.e:Nat)):=by rw[HN2.out.cell 4,HX.out];rfl
       have c5:wd.cell? ⟨g,5,none⟩=some (.int .u32 (X.f:Nat)):=by rw[HN2.out.cell 5,HX.out];rfl
       have c6:wd.cell? ⟨g,6,none⟩=some (.int .u32 (X.g:Nat)):=by rw[HN2.out.cell 6,HX.out];rfl
       have c7:wd.cell? ⟨g,7,none⟩=some (.int .u32 (X.h:Nat)):=by rw[HN2.out.cell 7,HX.out];rfl
       have hcut:(Instr.slice 9 (.string E) (some (.int .i64 (64*(k:Int)))) (some (.int .i64 (64*(k:Int)+64))) none).run Tryz.prog wd=.ok (S ((E.data.toList.drop (64*k)).take 64)) wd:=by
        have:=yek (P:=Tryz.prog) 9 Tryz.underlying9 E (64*k) 64 (by omega) wd
        rw[←this];simp
       simp only[List.take_succ_cons,List.take_zero,List.drop_succ_cons,List.drop_zero]
       repeat still_step
       refine wpStill_nil ?_
       have HTd:=yh (HT.out.below hbd hpos)
       have Hok:=yh (show X.ok by rw[HX.out];exact Sha.yef _ (Sha.yef _ Sha.yer n) k)
       clear c0 c1 c2 c3 c4 c5 c6 c7 hcut
       go_wp2_with fail
       refine(ymh X E k wd HTd.out Hok.out (by omega)).mono ?_
       rintro e w2 ⟨rfl,hb2⟩
       have hg2:=HN2.out.lt
       have hg1:=HR2.out.lt
       have HR3:=yh (HR2.out.below hb2 hg1)
       have HN3:=yh (HN2.out.below hb2 hg2)
       go_wp2_with (refine yai rfl 225 (.tmp 3) (.tmp 45) rfl g _ rfl rfl _ HN3.out I58.out (yjq _ _) (ygj _) ?_;intro wE hwE;have HwE:=yh hwE;clear hwE)
       have hwE:=HwE.out
       refine⟨⟨k+1,by omega,by go_num,?_,?_,?_⟩,by simp only[intOf];omega⟩
       · rw[hwE];exact HR3.out.rowFar (by omega) _
       · rw[hwE]
         have:=HN3.out.row (st8 (Sha.step X (List.take 64 (List.drop (64*k) E.data.toList))))
         rw[HX.out]at this
         rw[HX.out]
         exact this
       · rw[hwE];exact below_setRow (hbd.trans (hb2.mono hbd.size)) (by omega) _
     · have hlt2 :¬(64*(k:Int)<(E.size:Int)):=by omega
       have ek:k=E.size / 64:=by omega
       rw[ek]at HN
       have hok:=Sha.yef E.data.toList (Sha.yef s.data.toList Sha.yer n) (E.size / 64)
       obtain⟨X,hX⟩ :∃X,X=Sha.runs (Sha.runs Sha.start s.data.toList n) E.data.toList (E.size / 64):=⟨_,rfl⟩
       have hsum:=Hsum.out
       rw[←hX]at HN hok hsum
       have HX:=yh hsum
       clear hsum hX
       have Hok:=yh hok
       obtain⟨TN,hTN⟩:=HN.out
       have HTN:=yh hTN
       clear hok hTN ek hlt hk
       go_wp2_with (refine wpList_load_row rfl 225 (.tmp 3) rfl g rfl TN _ (0,0) _ HTN.out Tryz.underlying225 rfl I58.out ?_)
       refine(ytg X wr Hok.out).mono ?_
       rintro e w3 ⟨rfl,hb3⟩
       have hR3:=HR.out.below hb3 HR.out.lt
       have HR3:=yh hR3
       have hz:=ybb (Sha.bytes X) (by rw[Sha.ya9];omega)
       have I24b:=yh (I24.out.trans (congrArg some hz.symm))
       have Hold:=yh ((ybb [] (by simp)).trans hz.symm)
       clear hR3 hz
       go_wp2_with (refine yai rfl 62 (.tmp 2) (.tmp 47) rfl w.heap.size (bRow (Sha.bytes X)) rfl rfl _ HR3.out I24b.out Hold.out (ya1 _) ?_;intro w5 hw5)
       obtain⟨T5,hT5⟩:=(show Holds w5 w.heap.size (bRow (Sha.bytes X)) from by rw[hw5];exact HR3.out.row _)
       exact bodyPost_ret (results_cell_row rfl _ _ w.heap.size T5 _ (0,0) _ rfl hT5 Tryz.underlying62 rfl I24b.out) rfl ⟨by rw[HX.out],by rw[hw5];exact below_setRow (hb.trans (hb3.mono hb.size)) (Nat.le_refl _) _⟩
end
section
open Go.RowKit
theorem ycr (h:List UInt8)(hh:h.length=32):bRow h=yRow h:=by
 unfold bRow yRow
 rw[hh]
 simp
theorem yau {P:Program}{f:Nat}{a:Array Value}{w:World}{K:Ending→World→Prop}(h :∀w',w'=w→Calls P f a w' K):Calls P f a w K:=h _ rfl
theorem yrb (W:World)(g:Nat)(h:List UInt8)(hh:h.length=32)(hg:Holds W g (bRow h)):
 (Go.convert 85 9 (.slice (some ⟨g,0,none⟩) 32 32)).run Tryz.prog W=.ok (S h) W:=by
 have:=run_convert_bytes_arg (P:=Tryz.prog) W 85 5 Tryz.underlying85 Tryz.underlying5 g 0 32 32 (h.map fun b=>(b.toNat:Int)) (by rw[List.length_map,hh]) (fun i hi=>by
  rw[Nat.zero_add,hg.cell i,ycr h hh]
  exact yf8 h i (by omega)) 9 Tryz.underlying9
 rw[ydk]at this
 exact this
theorem yrs (h:List UInt8)(s:ByteArray)(w:World)(hT:Tab w)(hh:h.length=32)(hs:s.size≤1152921504606846900):
 Calls Tryz.prog 151 #[.agg (bRow h),.string s] w fun e w'=>e=.returned (.agg (bRow (Sha.sum (h++s.data.toList))))∧Below w.heap.size w w':=by
 have HT:=yh hT
 have hpos:=hT.pos
 have HH:=yh hh
 have hbig :¬(9223372036854775807<h.length+s.size):=by omega
 have i24:(Tryz.prog.info? 62).map (·.size)=some 32:=by kernel_rfl
 have I24:=yh i24
 clear hT hh i24
 go_enter Tryz.func151,Tryz.ntmps151
 go_wp2_with fail
 rw[yrb _ _ h HH.out ((Holds.new _ _ _).alloc _)]
 go_wp2_with fail
 have hsz:((⟨h.toArray⟩:ByteArray)++s).size=32+s.size:=by rw[ByteArray.size_append,←HH.out];rfl
 have hdl:((⟨h.toArray⟩:ByteArray)++s).data.toList=h++s.data.toList:=by rw[ByteArray.data_append];simp
 refine yau ?_
 intro w1 hw1
 have hR:Holds w1 (w.heap.size+1) (bRow []):=by rw[hw1];exact Holds.new2 (by simp) rfl
 have hb1:Below w.heap.size w w1:=by rw[hw1];exact((Below.refl _ _).alloc (Nat.le_refl _) _).alloc (by simp) _
 have HR:=yh hR
 clear hw1 hR
 refine(yk5 _ w1 (HT.out.below hb1 hpos) (by rw[hsz];omega)).mono ?_
 rw[hdl]
 rintro e w2 ⟨rfl,hb2⟩
 have HR2:=yh (HR.out.below hb2 HR.out.lt)
 have hz:=ybb (Sha.sum (h++s.data.toList)) (by rw[Sha.ygh];omega)
 have I24b:=yh (I24.out.trans (congrArg some hz.symm))
 have Hold:=yh ((ybb [] (by simp)).trans hz.symm)
 clear hz hsz hdl
 go_wp2_with (refine yai rfl 62 (.tmp 4) (.tmp 9) rfl (w.heap.size+1) (bRow (Sha.sum (h++s.data.toList))) rfl rfl _ HR2.out I24b.out Hold.out (ya1 _) ?_;intro w5 hw5)
 obtain⟨T5,hT5⟩:=(show Holds w5 (w.heap.size+1) (bRow (Sha.sum (h++s.data.toList))) from by rw[hw5];exact HR2.out.row _)
 exact bodyPost_ret (results_cell_row rfl _ _ (w.heap.size+1) T5 _ (0,0) _ rfl hT5 Tryz.underlying62 rfl I24b.out) rfl ⟨rfl,by rw[hw5];exact below_setRow (hb1.trans (hb2.mono hb1.size)) (by omega) _⟩
end
section
namespace Seal
def hz:List UInt8:=List.replicate 32 0
def keyL (who:Nat):List UInt8:=Sha.sum ([107,101,121]++Oct.num who)
def key (who:Int):List UInt8×Int:=if who<0∨64<who then (hz,20) else (keyL who.toNat,0)
def tagL (k:List UInt8)(dom:Nat)(body:List UInt8):List UInt8:=Sha.sum (k++UInt8.ofNat dom::body)
def tag (who dom:Int)(body:List UInt8):List UInt8×Int:=
 if who<0∨64<who then (hz,20) else if dom<1∨4<dom then (hz,2) else (tagL (keyL who.toNat) dom.toNat body,0)
theorem yt2:hz.length=32:=by simp[hz]
theorem ycw (who:Nat):(keyL who).length=32:=Sha.ygh _
theorem yeq (k:List UInt8)(dom:Nat)(body:List UInt8):(tagL k dom body).length=32:=Sha.ygh _
theorem ypi (who dom:Int)(body:List UInt8):(tag who dom body).1.length=32:=by
 unfold tag;split
 · exact yt2
 · split
   · exact yt2
   · exact yeq _ _ _
theorem ys4:Oct.num 0=[0]:=by decide
theorem yqk (n:Nat)(h0:0<n)(h1:n≤64):Oct.num n=[1,UInt8.ofNat n]:=by
 have e:Oct.bigs 8 n=[UInt8.ofNat n]:=by
  simp only[Oct.bigs]
  rw[if_neg (by omega),if_pos (by omega),Nat.mod_eq_of_lt (by omega)]
  rfl
 unfold Oct.num
 rw[e]
 rfl
theorem yq8:keyL 0=Sha.sum [107,101,121,0]:=by unfold keyL;rw[ys4];rfl
theorem ytb (n:Nat)(h0:0<n)(h1:n≤64):keyL n=Sha.sum [107,101,121,1,UInt8.ofNat n]:=by unfold keyL;rw[yqk n h0 h1];rfl
end Seal
end
section
open Go.RowKit
theorem yoz (n:Int)(w:World)(h0:0≤n)(h1:n≤9223372036854775807):
 Calls Tryz.prog 90 #[.int .i64 n] w fun e w'=>e=.returned (.tuple #[S (Oct.num n.toNat),.int .i64 0])∧Below w.heap.size w w':=by
 go_enter Tryz.func90,Tryz.ntmps90
 go_wp2_with fail
 refine(ydh n _ h0 h1).mono ?_
 rintro e w1 ⟨rfl,hb1⟩
 go_wp2_with fail
 go_ret2
 exact⟨rfl,hb1⟩
theorem yl7:bRow Seal.hz=bRow []:=by unfold bRow Seal.hz;rfl
theorem ya2 {P:Program}{fn:Func}{p u:Tmp}{ty:TypeId}(h:fn.results=#[.cell p ty,.tmp u])(tmps:Array Value)(w:World)(g:Nat)(cs:Array Value)(d:TypeDesc)
 (hp:tmps.getD p undef=.pointer (some ⟨g,0,none⟩)) (hg:Holds w g cs)
 (hu:P.underlying ty=some d) (hd:(match d with | .struct _ | .array _ _=>true|_=>false)=true) (hi:(P.info? ty).map (·.size)=some cs.size) (x:Value) (hx:tmps.getD u undef=x):
 (results fn tmps).run P w=.ok (.tuple #[.agg cs,x]) w:=by
 obtain⟨T,hg⟩:=hg
 rw[results_cell_tmp h,hp]
 have hl:=run_loadVar_row w g T ty cs (0,0) d hg hu hd hi
 have ha:(asAddr (.pointer (some ⟨g,0,none⟩))).run P w=.ok ⟨g,0,none⟩ w:=rfl
 rw[ha]
 simp only[Result.andThen,hl,hx]
end
section
open Go.RowKit
theorem ykb {α β : Type}(f : α→Option β)(g : α→β) :∀l:List α,(∀i∈l,f i=some (g i))→l.mapM f=some (l.map g)
 | [],_=>rfl
 | a::l,h=>by
   rw[List.mapM_cons,h a (by simp),ykb f g l (fun i hi=>h i (by simp[hi]))]
   rfl
theorem lit_wf :∀n:Fin 256,(Lit.int .u8 (n.1:Int)).wf=true:=by decide +kernel
theorem yf4 {α β : Type}(f : α→β) :∀l:List α,(l.map fun i=>[f i]).flatten=l.map f
 | []=>rfl
 | a::l=>by rw[List.map_cons,List.flatten_cons,yf4 f l];rfl
theorem ydi (R:List UInt8)(hR:R.length=32):Tryz.prog.keyLits 2 62 (bRow R).toList=some (R.map fun b=>Lit.int .u8 (b.toNat:Int)):=by
 have hc:Tryz.prog.cellsOf 62=32:=by kernel_rfl
 have hc5:Tryz.prog.cellsOf 5=1:=by kernel_rfl
 have hz:(bRow R).toList.length=32:=by rw[Array.length_toList,ybb _ (by omega)]
 unfold Program.keyLits
 simp only[Tryz.underlying62]
 rw[if_pos (hz.trans hc.symm),ykb _ (fun i=>[Lit.int .u8 ((R.getD i 0).toNat:Int)]) (List.range 32) (fun i hi=>?_)]
 · simp only[Option.map_some]
   rw[yf4]
   congr 1
   apply List.ext_getElem
   · simp[hR]
   · intro i h1 h2
     have:i<R.length:=by simpa using h2
     simp[List.getD,this]
 · have hi':i<32:=by simpa using hi
   have e:((bRow R).toList.drop (i * Tryz.prog.cellsOf 5)).take (Tryz.prog.cellsOf 5)=[.int .u8 ((R.getD i 0).toNat:Int)]:=by
    rw[hc5,Nat.mul_one,ycr R hR]
    unfold yRow
    rw[List.drop_eq_getElem_cons (by simp;omega)]
    simp[List.getD,show i<R.length by omega]
   rw[e]
   unfold Program.keyLits
   simp only[Tryz.underlying5]
   rw[if_pos ⟨trivial,lit_wf ⟨(R.getD i 0).toNat,(R.getD i 0).toNat_lt⟩⟩]
theorem yei (W:World)(R Q:List UInt8)(hR:R.length=32)(hQ:Q.length=32):
 (Op.equalIn 10000 62 (.agg (bRow R)) (.agg (bRow Q))).run Tryz.prog W=.ok (decide (R=Q)) W:=by
 have hk:Tryz.prog.keyTypeAt 2 62=true:=by kernel_rfl
 have hf :∀X:List UInt8,X.length=32→(Value.agg (bRow X)).formed Tryz.prog 62=true:=by
  intro X hX
  have hc:Tryz.prog.cellsOf 62=32:=by kernel_rfl
  have hs:=ybb X (by omega)
  simp[Value.formed,Tryz.underlying62,hs,hc]
 obtain⟨r,hr,hiff⟩:=run_equalIn_deep (P:=Tryz.prog) 9998 2 62 hk W 2 2 (.agg (bRow R)) (.agg (bRow Q)) _ _ (hf R hR) (hf Q hQ) (ydi R hR) (ydi Q hQ)
 have hinj:(R.map fun b=>Lit.int .u8 (b.toNat:Int))=(Q.map fun b=>Lit.int .u8 (b.toNat:Int))↔R=Q:=by
  constructor
  · intro h
    refine List.map_inj_right (fun x y hxy=>?_) |>.1 h
    have:(x.toNat:Int)=(y.toNat:Int):=by injection hxy
    exact UInt8.toNat_inj.1 (by omega)
  · intro h;rw[h]
 rw[hinj]at hiff
 have e:r=decide (R=Q):=by
  by_cases h:R=Q
  · rw[decide_eq_true h];exact hiff.2 h
  · rw[decide_eq_false h]
    cases r
    · rfl
    · exact absurd (hiff.1 rfl) h
 rw[←e]
 exact hr
end
section
open Go.RowKit
namespace Sha
end Sha
end
section
open Go.RowKit
end
section
open Go.RowKit
namespace Sha
end Sha
def Lies (w:World)(B b off:Nat)(L:List (List UInt8)):Prop:=b<B∧∀i,i<L.length→w.cell? ⟨b,off+i,none⟩=some (S (L.getD i []))
theorem Lies.take {w:World}{B b off:Nat}{L:List (List UInt8)}(h:Lies w B b off L)(k:Nat):Lies w B b off (L.take k):=
 ⟨h.1,fun i hi=>by
  rw[List.length_take]at hi
  rw[h.2 i (by omega)]
  simp[List.getD,List.getElem?_take,show i<k by omega]⟩
theorem Lies.drop {w:World}{B b off:Nat}{L:List (List UInt8)}(h:Lies w B b off L)(k:Nat):Lies w B b (off+k) (L.drop k):=
 ⟨h.1,fun i hi=>by
  rw[List.length_drop]at hi
  rw[Nat.add_assoc,h.2 (k+i) (by omega)]
  simp[List.getD,List.getElem?_drop]⟩
theorem Lies.below {w w':World}{B C b off:Nat}{L:List (List UInt8)}(h:Lies w B b off L)(hb:Below C w w')(hC:B≤C):Lies w' B b off L:=
 ⟨h.1,fun i hi=>(hb.cell (p:=⟨b,off+i,none⟩) (by have:=h.1;exact Nat.lt_of_lt_of_le this hC)).trans (h.2 i hi)⟩
theorem Lies.mono {w:World}{B C b off:Nat}{L:List (List UInt8)}(h:Lies w B b off L)(hC:B≤C):Lies w C b off L:=⟨Nat.lt_of_lt_of_le h.1 hC,h.2⟩
def Small (L:List (List UInt8)):Prop :=∀i,i<L.length→(L.getD i []).length≤1152921504606846000
theorem Small.take {L:List (List UInt8)}(h:Small L)(k:Nat):Small (L.take k):=fun i hi=>by
 rw[List.length_take]at hi
 have:=h i (by omega)
 simpa[List.getD,List.getElem?_take,show i<k by omega] using this
theorem Small.drop {L:List (List UInt8)}(h:Small L)(k:Nat):Small (L.drop k):=fun i hi=>by
 rw[List.length_drop]at hi
 have:=h (k+i) (by omega)
 simpa[List.getD,List.getElem?_drop] using this
theorem Holds.cellsAt {b:Nat} :∀(vs old pre post:List Value) (w:World),old.length=vs.length→Holds w b (pre++(old++post)).toArray→Holds (w.setCells b pre.length vs) b (pre++(vs++post)).toArray
 | [],[],pre,post,w,_,h=>h
 | v::vs,x::old,pre,post,w,hl,h=>by
   have h1:=h.set_ pre.length v
   simp only[List.setIfInBounds_toArray]at h1
   rw[List.set_append_right _ _ (Nat.le_refl _),Nat.sub_self,List.cons_append,List.set_cons_zero]at h1
   have h2:=Holds.cellsAt vs old (pre ++ [v]) post _ (by simpa using hl) (by simpa using h1)
   simp only[List.length_append,List.length_singleton,List.append_assoc,List.singleton_append]at h2
   exact h2
 | [],_::_,_,_,_,hl,_=>by simp at hl
 | _::_,[],_,_,_,hl,_=>by simp at hl
theorem Holds.cells {w:World}{b:Nat}{cs V:Array Value}(h:Holds w b cs)(hs:cs.size=V.size):Holds (w.setCells b 0 V.toList) b V:=by
 have:=Holds.cellsAt (b:=b) V.toList cs.toList [] [] w (by simpa using hs) (by simpa using h)
 simpa using this
theorem Holds.there {w:World}{b n:Nat}{cs:Array Value}(h:Holds w b cs)(hs:n=cs.size):w.there b 0 n:=fun j hj=>by
 rw[Nat.zero_add]
 refine⟨?_,h.free j⟩
 rw[h.cell j,Array.getElem?_eq_getElem (by omega)]
 rfl
theorem yhg {B b:Nat}{a:World}(hb:B≤b) :∀(vs:List Value) (o:Nat) (w:World),Below B a w→Below B a (w.setCells b o vs)
 | [],_,_,h=>h
 | v::vs,o,w,h=>yhg hb vs (o+1) _ (h.setCell hb _)
end
section
open Go.RowKit
structure Tx where
 frm:Int
 nonce:Int
 fee:Int
 to:Int
 data:ByteArray
 lane:Bool
 round:Int
 turn:Int
 bY:List UInt8
 tag:List UInt8
namespace Tx
def head (t:Tx):List Value:=[.int .i64 t.frm,.int .i64 t.nonce,.int .i64 t.fee,.int .i64 t.to,.string t.data,.bool t.lane,.int .i64 t.round,.int .i64 t.turn]
def cells (t:Tx):List Value:=t.head++((bRow t.bY).toList++(bRow t.tag).toList)
def arr (t:Tx):Array Value:=t.cells.toArray
def v (t:Tx):Value:=.agg t.arr
def fits (n:Int):Prop:=-9223372036854775808≤n∧n≤9223372036854775807
structure Ok (t:Tx):Prop where
 bY:t.bY.length=32
 tag:t.tag.length=32
 data:t.data.size≤140737488351232
 frm:fits t.frm
 nonce:fits t.nonce
 fee:fits t.fee
 to:fits t.to
 round:fits t.round
 turn:fits t.turn
def zero:List UInt8:=List.replicate 32 0
def acct (n:Int):Bool:=decide (0≤n)&&decide (n≤63)
def num (n:Int):Bool:=decide (0≤n)&&decide (n≤1099511627776)
def plain (t:Tx):Bool:=decide (t.round=0)&&(decide (t.turn=0)&&decide (t.bY=zero))
def err (t:Tx):Int:=
 if acct t.frm=false∨acct t.to=false then 20
 else if num t.nonce=false∨num t.fee=false then 2
 else if (t.lane=true∧(num t.round=false∨num t.turn=false))∨(t.lane=false∧t.plain=false) then 2
 else if 256<t.data.size then 3 else 0
theorem yap (R:List UInt8)(h:R.length=32):(bRow R).toList.length=32:=by rw[Array.length_toList,ybb _ (by omega)]
theorem yag {t:Tx}(h:t.Ok):t.cells.length=72:=by
 unfold cells head
 simp only[List.length_append,yap _ h.bY,yap _ h.tag,List.length_cons,List.length_nil]
theorem ytr {t:Tx}(h:t.Ok):t.arr.size=72:=by simp[arr,yag h]
theorem ym4 {t:Tx}(h:t.Ok):(t.cells.drop 8).take 32=(bRow t.bY).toList:=by
 show (((bRow t.bY).toList++(bRow t.tag).toList)).take 32=_
 rw[List.take_append_of_le_length (by rw[yap _ h.bY];omega),List.take_of_length_le (by rw[yap _ h.bY];omega)]
theorem ykr {t:Tx}(h:t.Ok):(t.cells.drop 40).take 32=(bRow t.tag).toList:=by
 have e:t.cells.drop 40=((bRow t.bY).toList++(bRow t.tag).toList).drop 32:=rfl
 rw[e,List.drop_left' (yap _ h.bY),List.take_of_length_le (by rw[yap _ h.tag];omega)]
def hlits (R:List UInt8):List Lit:=R.map fun b=>Lit.int .u8 (b.toNat:Int)
def lits (t:Tx):List Lit:=[.int .i64 t.frm,.int .i64 t.nonce,.int .i64 t.fee,.int .i64 t.to,.string t.data.data.toList,.bool t.lane,.int .i64 t.round,.int .i64 t.turn]++(hlits t.bY++hlits t.tag)
theorem yd3 {R Q:List UInt8}(h:hlits R=hlits Q):R=Q:=by
 refine List.map_inj_right (fun x y hxy=>?_) |>.1 h
 have:(x.toNat:Int)=(y.toNat:Int):=by injection hxy
 exact UInt8.toNat_inj.1 (by omega)
theorem yf0 {t u:Tx}(ht:t.Ok)(hu:u.Ok)(h:t.lits=u.lits):t=u:=by
 obtain⟨a1,a2,a3,a4,a5,a6,a7,a8,a9,a10⟩:=t
 obtain⟨b1,b2,b3,b4,b5,b6,b7,b8,b9,b10⟩:=u
 have l1:a9.length=32:=ht.bY
 have l2:b9.length=32:=hu.bY
 simp only[lits,List.cons_append,List.nil_append,List.cons.injEq,Lit.int.injEq,Lit.string.injEq,Lit.bool.injEq,true_and]at h
 obtain⟨rfl,rfl,rfl,rfl,h5,rfl,rfl,rfl,h9⟩:=h
 have h5':a5=b5:=by
  cases a5;cases b5
  congr 1
  exact Array.toList_inj.1 h5
 subst h5'
 obtain⟨h9a,h9b⟩:=List.append_inj h9 (by simp[hlits,l1,l2])
 rw[yd3 h9a,yd3 h9b]
end Tx
theorem int_wf {n:Int}(h:Tx.fits n):(Lit.int .i64 n).wf=true:=by
 unfold Tx.fits at h
 simp[Lit.wf,IntKind.min,IntKind.max,IntKind.signed,IntKind.bits]
 omega
theorem yck (d:Nat){n:Int}(h:Tx.fits n):Tryz.prog.keyLits (d+1) 3 [.int .i64 n]=some [.int .i64 n]:=by
 unfold Program.keyLits
 simp only[Tryz.underlying3]
 rw[if_pos ⟨trivial,int_wf h⟩]
theorem ys6 (d:Nat)(b:Bool):Tryz.prog.keyLits (d+1) 4 [.bool b]=some [.bool b]:=by
 unfold Program.keyLits
 simp only[Tryz.underlying4]
theorem yqq (d:Nat)(s:ByteArray)(h:s.size≤maxLen):Tryz.prog.keyLits (d+1) 9 [.string s]=some [.string s.data.toList]:=by
 unfold Program.keyLits
 simp only[Tryz.underlying9]
 rw[if_pos h]
theorem ype {t:Tx}(h:t.Ok):Tryz.prog.keyLits 3 81 t.cells=some t.lits:=by
 have hc:Tryz.prog.cellsOf 81=72:=by kernel_rfl
 have hI:Tryz.prog.cellsOf 3=1:=by kernel_rfl
 have hS:Tryz.prog.cellsOf 9=1:=by kernel_rfl
 have hB:Tryz.prog.cellsOf 4=1:=by kernel_rfl
 have hH:Tryz.prog.cellsOf 62=32:=by kernel_rfl
 have hm:t.data.size≤maxLen:=by have:=h.data;unfold maxLen;omega
 unfold Program.keyLits
 simp only[Tryz.underlying81]
 rw[if_pos ⟨by rw[hc,Tx.yag h],by kernel_rfl⟩]
 have e0:Tryz.prog.keyLits 2 3 ((t.cells.drop 0).take (Tryz.prog.cellsOf 3))=some [.int .i64 t.frm]:=by rw[hI];exact yck 1 h.frm
 have e1:Tryz.prog.keyLits 2 3 ((t.cells.drop 1).take (Tryz.prog.cellsOf 3))=some [.int .i64 t.nonce]:=by rw[hI];exact yck 1 h.nonce
 have e2:Tryz.prog.keyLits 2 3 ((t.cells.drop 2).take (Tryz.prog.cellsOf 3))=some [.int .i64 t.fee]:=by rw[hI];exact yck 1 h.fee
 have e3:Tryz.prog.keyLits 2 3 ((t.cells.drop 3).take (Tryz.prog.cellsOf 3))=some [.int .i64 t.to]:=by rw[hI];exact yck 1 h.to
 have e4:Tryz.prog.keyLits 2 9 ((t.cells.drop 4).take (Tryz.prog.cellsOf 9))=some [.string t.data.data.toList]:=by rw[hS];exact yqq 1 _ hm
 have e5:Tryz.prog.keyLits 2 4 ((t.cells.drop 5).take (Tryz.prog.cellsOf 4))=some [.bool t.lane]:=by rw[hB];exact ys6 1 _
 have e6:Tryz.prog.keyLits 2 3 ((t.cells.drop 6).take (Tryz.prog.cellsOf 3))=some [.int .i64 t.round]:=by rw[hI];exact yck 1 h.round
 have e7:Tryz.prog.keyLits 2 3 ((t.cells.drop 7).take (Tryz.prog.cellsOf 3))=some [.int .i64 t.turn]:=by rw[hI];exact yck 1 h.turn
 have e8:Tryz.prog.keyLits 2 62 ((t.cells.drop 8).take (Tryz.prog.cellsOf 62))=some (Tx.hlits t.bY):=by rw[hH,Tx.ym4 h];exact ydi _ h.bY
 have e9:Tryz.prog.keyLits 2 62 ((t.cells.drop 40).take (Tryz.prog.cellsOf 62))=some (Tx.hlits t.tag):=by rw[hH,Tx.ykr h];exact ydi _ h.tag
 simp only[List.mapM_cons,List.mapM_nil,e0,e1,e2,e3,e4,e5,e6,e7,e8,e9,Option.bind_eq_bind,Option.bind_some,Option.pure_def,Option.map_some]
 simp[Tx.lits]
theorem tx_eq (W:World)(t u:Tx)(ht:t.Ok)(hu:u.Ok) :∃r:Bool,(Op.equalIn 10000 81 t.v u.v).run Tryz.prog W=.ok r W∧(r=true↔t=u):=by
 have hk:Tryz.prog.keyTypeAt 3 81=true:=by kernel_rfl
 have hf :∀x:Tx,x.Ok→x.v.formed Tryz.prog 81=true:=by
  intro x hx
  have hc:Tryz.prog.cellsOf 81=72:=by kernel_rfl
  have hs:=Tx.ytr hx
  simp[Tx.v,Value.formed,Tryz.underlying81,hs,hc]
 obtain⟨r,hr,hiff⟩:=run_equalIn_deep (P:=Tryz.prog) 9997 3 81 hk W 3 3 t.v u.v _ _ (hf t ht) (hf u hu) (by show Tryz.prog.keyLits 3 _ t.arr.toList=_;exact ype ht) (by show Tryz.prog.keyLits 3 _ u.arr.toList=_;exact ype hu)
 exact⟨r,hr,hiff.trans ⟨Tx.yf0 ht hu,fun h=>by rw[h]⟩⟩
end
section
open Go.RowKit
def Row (w:World)(B:Nat)(t:TypeId)(xs:List Value):Prop:=w.heap[B]? = some (.cells xs.toArray t (0,0))
theorem Row.cell {w:World}{B:Nat}{t:TypeId}{xs:List Value}(h:Row w B t xs)(i:Nat)(hi:i<xs.length):w.cell? ⟨B,i,none⟩=some xs[i]:=by
 unfold Row at h
 simp[World.cell?,h,hi]
theorem Row.free {w:World}{B:Nat}{t:TypeId}{xs:List Value}(h:Row w B t xs)(i:Nat):w.frozen? ⟨B,i,none⟩=false:=by
 unfold Row at h
 simp[World.frozen?,h]
theorem Row.lt {w:World}{B:Nat}{t:TypeId}{xs:List Value}(h:Row w B t xs):B<w.heap.size:=lt_of_block h
theorem Row.set {w:World}{B:Nat}{t:TypeId}{xs:List Value}(h:Row w B t xs)(i:Nat)(v:Value)(hi:i<xs.length):Row (w.setCell ⟨B,i,none⟩ v) B t (xs.set i v):=by
 have hlt:=h.lt
 unfold Row at h ⊢
 have h':w.heap[B]=.cells xs.toArray t (0,0):=by simpa[Array.getElem?_eq_getElem hlt] using h
 show (w.heap.modify B _)[B]? = _
 rw[Array.getElem?_eq_getElem (by simpa using hlt),Array.getElem_modify_self,h']
 simp[Obj.cells,hi]
theorem Row.kept {w w':World}{B:Nat}{r:Option Nat}{t:TypeId}{xs:List Value}(h:Row w B t xs)(hg:w.grownBy w' r)(hne:some B≠r):Row w' B t xs:=
 (hg.block B h.lt hne).trans h
theorem Row.below {w w':World}{B:Nat}{t:TypeId}{xs:List Value}(h:Row w B t xs)(hb:Below w.heap.size w w'):Row w' B t xs:=
 (hb.block B h.lt).trans h
theorem Row.new (w:World)(t:TypeId)(xs:List Value):Row (w.alloc (.cells xs.toArray t)) w.heap.size t xs:=heap_alloc_new _ _
theorem yae {w w':World}(h:Below w.heap.size w w')(r:Option Nat):w.grownBy w' r:=⟨h.os,h.tape,h.output,h.size,fun k hk _=>h.block k hk⟩
theorem yaq (w:World)(B i:Nat)(v:Value):w.grownBy (w.setCell ⟨B,i,none⟩ v) (some B):=
 ⟨rfl,rfl,rfl,by simp[World.setCell],fun k _ hk=>Below.heap_setCell _ _ _ _ (fun e=>hk (by rw[e]))⟩
theorem ybh (w:World)(r:Option Nat):w.grownBy w.drew r:=⟨rfl,rfl,rfl,Nat.le_refl _,fun _ _ _=>rfl⟩
theorem yaw (w:World)(o:Obj)(r:Option Nat):w.grownBy (w.alloc o) r:=⟨rfl,rfl,rfl,by simp,fun k hk _=>Below.heap_alloc w o k hk⟩
theorem yav (w:World)(r:Option Nat):w.grownBy w r:=⟨rfl,rfl,rfl,Nat.le_refl _,fun _ _ _=>rfl⟩
abbrev I (n:Int):Value:=.int .i64 n
abbrev Is (L:List Int):List Value:=L.map I
theorem Row.num {w:World}{B:Nat}{t:TypeId}{L:List Int}(h:Row w B t (Is L))(k:Nat)(hk:k<L.length):w.cell? ⟨B,k,none⟩=some (.int .i64 (L.getD k 0)):=by
 have:=h.cell k (by simpa using hk)
 rw[this]
 simp[List.getD,hk]
theorem ybj {P:Program}{id:Nat}{Q:Exit→Act→World→Prop}{a:Act}{w:World}{l:List Oper}(n:Nat)(hm:P.follows .mixedOrders=true)(hB:Region.lexTailB .any l.toArray n=true)
 (h :∀w3:World,w3=w.drew→wpStill P l.toArray w3 (fun a'=>wpList P l.toArray Q (l.drop n) a' w3) (l.take n) a):(Code.region id l.toArray true).wp P Q a w:=
 wp_region_still_tail n hm hB (h _ rfl)
theorem yax {w w3:World}(h:w3=w.drew)(b:Nat)(o:Nat):w3.cell? ⟨b,o,none⟩=w.cell? ⟨b,o,none⟩:=by subst h;rfl
end
section
open Go.RowKit
theorem yni (cs:List Value)(off:Nat)(l:List Value)(h:off+l.length≤cs.length):
 (l.toArray.zipIdx.foldl (fun (cs:Array Value) (x:Value×Nat)=>cs.setIfInBounds (off+x.2) x.1) cs.toArray)=(cs.take off++(l++cs.drop (off+l.length))).toArray:=by
 have hf:(l.toArray.zipIdx.foldl (fun (cs:Array Value) (x:Value×Nat)=>cs.setIfInBounds (off+x.2) x.1) cs.toArray)=((l.zipIdx 0).foldl (fun cs (x:Value×Nat)=>cs.setIfInBounds (off+x.2) x.1) cs.toArray):=by
  rw[←Array.foldl_toList,Array.toList_zipIdx]
 rw[hf]
 obtain⟨h1,h2⟩:=Go.Great.foldl_set off l 0 cs.toArray
 apply Array.ext_getElem?
 intro k
 rw[h2 k]
 simp only[Nat.add_zero,List.size_toArray,List.getElem?_toArray]
 by_cases hk:off≤k∧k<off+l.length∧k<cs.length
 · rw[if_pos hk,List.getElem?_append_right (by rw[List.length_take];omega),List.length_take,Nat.min_eq_left (by omega),List.getElem?_append_left (by omega)]
 · rw[if_neg hk]
   by_cases h3:k<off
   · rw[List.getElem?_append_left (by rw[List.length_take];omega),List.getElem?_take_of_lt h3]
   · rw[List.getElem?_append_right (by rw[List.length_take];omega),List.length_take,Nat.min_eq_left (by omega),List.getElem?_append_right (by omega),List.getElem?_drop]
     congr 1
     omega
theorem ya4 (place:Nat→Option (Nat×Nat))(cs:List Value)(i:Nat)(v:Value)(l:List Value)(rest:List (Nat×Value))(off size:Nat)(hp:place i=some (off,size))(hv:v.cells=l.toArray)(hl:l.length=size)(hs:off+size≤cs.length):
 Instr.fill place cs.toArray ((i,v)::rest)=Instr.fill place (cs.take off++(l++cs.drop (off+size))).toArray rest:=by
 subst hl
 rw[Instr.fill]
 simp only[hp,hv]
 rw[if_neg (by simp;omega),←yni cs off l hs]
theorem ydt (place:Nat→Option (Nat×Nat))(cs:List Value):Instr.fill place cs.toArray []=some cs.toArray:=rfl
end
section
open Go.RowKit
theorem yak {P:Program}{ops:Array Oper}{rest:List Oper}{o:Oper}{a:Act}{w:World}{Q:Exit→Act→World→Prop}(hg:o.guard=none)(t:TypeId)(parts:List (Nat×Operand))(ho:o.op=.build t parts.toArray)
 (d:Option Tmp) (hd:o.dst=d) (vs:List (Nat×Value)) (hv:parts.map (fun p=>(p.1,a.eval p.2))=vs) (cells:Array Value) (hf:P.built t vs=some cells)
 (h:wpList P ops Q rest (a.put d (.agg cells)) w):wpList P ops Q (o::rest) a w:=by
 refine wpList_buildTo hg t parts.toArray ho d hd cells ?_ h
 rw[←hf,←hv]
 simp
end
section
open Go.RowKit
theorem ybm (n:Int)(w:World):
 Calls Tryz.prog 194 #[.int .i64 n] w fun e w'=>e=.returned (.bool (Tx.acct n))∧w=w':=by
 unfold Tx.acct
 by_cases h:0≤n
 · have hd:decide (0≤n)=true:=by simpa using h
   have Hd:=yh hd
   by_cases h2:n≤63
   · have hd2:decide (n≤63)=true:=by simpa using h2
     have h3:n<64:=by omega
     have Hd2:=yh hd2
     clear hd hd2
     go_enter Tryz.func194,Tryz.ntmps194
     go_wp2
     go_ret
     exact⟨by first|rfl|(rw[Hd.out,Hd2.out];rfl)|(rw[Hd2.out];rfl)|(rw[Hd.out,Hd2.out];simp[h3]),rfl⟩
   · have hd2:decide (n≤63)=false:=by simpa using h2
     have h3 :¬n<64:=by omega
     have Hd2:=yh hd2
     clear hd hd2
     go_enter Tryz.func194,Tryz.ntmps194
     go_wp2
     go_ret
     exact⟨by first|rfl|(rw[Hd.out,Hd2.out];rfl)|(rw[Hd2.out];rfl)|(rw[Hd.out,Hd2.out];simp[h3]),rfl⟩
 · have hd:decide (0≤n)=false:=by simpa using h
   have Hd:=yh hd
   clear hd
   go_enter Tryz.func194,Tryz.ntmps194
   go_wp2
   go_ret
   exact⟨by rw[Hd.out];rfl,rfl⟩
theorem ybl (n:Int)(w:World):
 Calls Tryz.prog 195 #[.int .i64 n] w fun e w'=>e=.returned (.bool (Tx.num n))∧w=w':=by
 unfold Tx.num
 by_cases h:0≤n
 · have hd:decide (0≤n)=true:=by simpa using h
   have Hd:=yh hd
   clear hd
   go_enter Tryz.func195,Tryz.ntmps195
   go_wp2
   go_ret
   exact⟨by rw[Hd.out];rfl,rfl⟩
 · have hd:decide (0≤n)=false:=by simpa using h
   have Hd:=yh hd
   clear hd
   go_enter Tryz.func195,Tryz.ntmps195
   go_wp2
   go_ret
   exact⟨by rw[Hd.out];rfl,rfl⟩
theorem ygd (n m:Int)(w:World):
 Calls Tryz.prog 106 #[.int .i64 n,.int .i64 m] w fun e w'=>e=.returned (.bool (decide (0≤n)&&decide (n≤m)))∧w=w':=by
 by_cases h:0≤n
 · have hd:decide (0≤n)=true:=by simpa using h
   have Hd:=yh hd
   clear hd
   go_enter Tryz.func106,Tryz.ntmps106
   go_wp2
   go_ret
   exact⟨by rw[Hd.out];rfl,rfl⟩
 · have hd:decide (0≤n)=false:=by simpa using h
   have Hd:=yh hd
   clear hd
   go_enter Tryz.func106,Tryz.ntmps106
   go_wp2
   go_ret
   exact⟨by rw[Hd.out];rfl,rfl⟩
theorem yam:(Tryz.prog.info? 81).map (·.size)=some 72:=by kernel_rfl
theorem ya3 {w:World}{g:Nat}{T:TypeId}{t:Tx}(h:Row w g T t.cells):w.rangeAt g 0 t.cells:=by
 intro j v hv
 obtain⟨hlt,he⟩:=List.getElem?_eq_some_iff.1 hv
 rw[Nat.zero_add,h.cell j hlt,he]
theorem yac {P:Program}{ops:Array Oper}{rest:List Oper}{op:Oper}{a:Act}{w:World}{Q:Exit→Act→World→Prop}(hw:Region.wanted op (yielded ops a.tmps)=true)(ty:TypeId)(x:Operand)(ho:op.op=.load ty x)
 (b o:Nat) (hx:a.eval x=.pointer (some ⟨b,o,none⟩)) (cs:List Value) (d:TypeDesc) (hc:w.rangeAt b o cs)
 (hu:P.underlying ty=some d) (hd:d.isRow=true) (hi:(P.info? ty).map (·.size)=some cs.length)
 (h:wpList P ops Q rest (a.put op.dst (.agg cs.toArray)) w):wpList P ops Q (op::rest) a w:=
 wpList_step fun K hK=>by rw[if_pos hw];exact wp_load_mid ty x ho b o hx cs d hc hu hd hi (hK _ _ h)
theorem yca {w:World}{g:Nat}{T:TypeId}{t:Tx}(ht:t.Ok)(h:Row w g T t.cells):w.rangeAt g 8 (bRow t.bY).toList∧w.rangeAt g 40 (bRow t.tag).toList:=by
 constructor
 · intro j v hv
   have hj:j<32:=by have:=(List.getElem?_eq_some_iff.1 hv).1;rw[Tx.yap _ ht.bY]at this;exact this
   have e:t.cells[8+j]? = some v:=by
    rw[←hv,←Tx.ym4 ht,List.getElem?_take_of_lt hj,List.getElem?_drop]
   obtain⟨hlt,he⟩:=List.getElem?_eq_some_iff.1 e
   rw[h.cell _ hlt,he]
 · intro j v hv
   have hj:j<32:=by have:=(List.getElem?_eq_some_iff.1 hv).1;rw[Tx.yap _ ht.tag]at this;exact this
   have e:t.cells[40+j]? = some v:=by
    rw[←hv,←Tx.ykr ht,List.getElem?_take_of_lt hj,List.getElem?_drop]
   obtain⟨hlt,he⟩:=List.getElem?_eq_some_iff.1 e
   rw[h.cell _ hlt,he]
theorem yas:(Tryz.prog.info? 62).map (·.size)=some 32:=by kernel_rfl
def Tx.none:Tx:=⟨0,0,0,0,ByteArray.empty,false,0,0,Tx.zero,Tx.zero⟩
theorem yub:(Tryz.prog.info? 81).map (·.zero)=some (some (.agg Tx.none.arr)):=by kernel_rfl
theorem ypd:(Tryz.prog.underlying 81).map (fun d=>match d with | .struct fields=>fields.toList.mapM (fun f=>(Tryz.prog.info? f.type).map fun i=>(f.offset,i.size))|_=>Option.none)=some (some [(0,1),(1,1),(2,1),(3,1),(4,1),(5,1),(6,1),(7,1),(8,32),(40,32)]):=by kernel_rfl
theorem ysf (parts:List (Nat×Value)):Tryz.prog.built 81 parts=Instr.fill (#[(0,1),(1,1),(2,1),(3,1),(4,1),(5,1),(6,1),(7,1),(8,32),(40,32)][·]?) Tx.none.cells.toArray parts:=by
 obtain⟨i0,hi,hz⟩:=Option.map_eq_some_iff.1 yub
 have hp:=ypd
 rw[Tryz.underlying81]at hp
 simp only[Option.map_some,Option.some.injEq]at hp
 unfold Program.built
 rw[hi,Tryz.underlying81]
 simp only[hz,hp]
 rfl
theorem fits0:Tx.fits 0:=⟨by decide,by decide⟩
theorem yuc (a b c d:Int)(s:ByteArray)(R:List UInt8)(hR:R.length=32):
 Tryz.prog.built 81 [(0,.int .i64 a),(1,.int .i64 b),(2,.int .i64 c),(3,.int .i64 d),(4,.string s),(9,.agg (bRow R))]=some (Tx.arr ⟨a,b,c,d,s,false,0,0,Tx.zero,R⟩):=by
 rw[ysf]
 rw[ya4 _ _ 0 _ [.int .i64 a] _ 0 1 rfl rfl rfl (Nat.le_of_ble_eq_true rfl)]
 rw[ya4 _ _ 1 _ [.int .i64 b] _ 1 1 rfl rfl rfl (Nat.le_of_ble_eq_true rfl)]
 rw[ya4 _ _ 2 _ [.int .i64 c] _ 2 1 rfl rfl rfl (Nat.le_of_ble_eq_true rfl)]
 rw[ya4 _ _ 3 _ [.int .i64 d] _ 3 1 rfl rfl rfl (Nat.le_of_ble_eq_true rfl)]
 rw[ya4 _ _ 4 _ [.string s] _ 4 1 rfl rfl rfl (Nat.le_of_ble_eq_true rfl)]
 rw[ya4 _ _ 9 _ (bRow R).toList _ 40 32 rfl (by rw[Array.toArray_toList];rfl) (Tx.yap R hR) (Nat.le_of_ble_eq_true rfl),ydt]
 congr 1
 unfold Tx.arr Tx.cells
 congr 1
 have e :∀X:List Value,X++((bRow R).toList ++ [])=X++(bRow R).toList:=fun X=>by rw[List.append_nil]
 exact e _
theorem ygv (t:Tx)(ht:t.Ok)(hl:t.lane=false)(w:World):
 Calls Tryz.prog 196 #[t.v] w fun e w'=>e=.returned (.bool t.plain)∧w.grownBy w' Option.none:=by
 obtain⟨r,hr,hiff⟩ :∃r:Bool,(∀W,(Op.equalIn 10000 81 (.agg t.cells.toArray) (.agg (Tx.arr ⟨t.frm,t.nonce,t.fee,t.to,t.data,false,0,0,Tx.zero,t.tag⟩))).run Tryz.prog W=.ok r W)∧(r=true↔t=⟨t.frm,t.nonce,t.fee,t.to,t.data,false,0,0,Tx.zero,t.tag⟩):=by
  have hu:Tx.Ok ⟨t.frm,t.nonce,t.fee,t.to,t.data,false,0,0,Tx.zero,t.tag⟩:=⟨rfl,ht.tag,ht.data,ht.frm,ht.nonce,ht.fee,ht.to,fits0,fits0⟩
  obtain⟨r,_,h2⟩:=tx_eq w t _ ht hu
  refine⟨r,fun W=>?_,h2⟩
  obtain⟨r',h1',h2'⟩:=tx_eq W t _ ht hu
  have:r'=r:=by rw[Bool.eq_iff_iff,h2',h2]
  rw[this]at h1'
  exact h1'
 have hrp:r=t.plain:=by
  rw[Bool.eq_iff_iff,hiff]
  unfold Tx.plain
  obtain⟨a1,a2,a3,a4,a5,a6,a7,a8,a9,a10⟩:=t
  simp only at hl
  subst hl
  simp
 rw[←hrp]
 have hbt:=yuc t.frm t.nonce t.fee t.to t.data t.tag ht.tag
 have hlen:=Tx.yag ht
 have hrow:=Row.new w 81 t.cells
 have hrng:=ya3 hrow
 have hht:=(yca ht hrow).2
 have c0:=hrow.cell 0 (by omega)
 have c1:=hrow.cell 1 (by omega)
 have c2:=hrow.cell 2 (by omega)
 have c3:=hrow.cell 3 (by omega)
 have c4:=hrow.cell 4 (by omega)
 have c0':(w.alloc (.cells t.cells.toArray 81)).cell? ⟨w.heap.size,0,Option.none⟩=some (.int .i64 t.frm):=c0
 have c1':(w.alloc (.cells t.cells.toArray 81)).cell? ⟨w.heap.size,1,Option.none⟩=some (.int .i64 t.nonce):=c1
 have c2':(w.alloc (.cells t.cells.toArray 81)).cell? ⟨w.heap.size,2,Option.none⟩=some (.int .i64 t.fee):=c2
 have c3':(w.alloc (.cells t.cells.toArray 81)).cell? ⟨w.heap.size,3,Option.none⟩=some (.int .i64 t.to):=c3
 have c4':(w.alloc (.cells t.cells.toArray 81)).cell? ⟨w.heap.size,4,Option.none⟩=some (.string t.data):=c4
 have Hbt:=yh hbt
 have HE:=yh ht
 have hC:t.v=.agg t.cells.toArray:=rfl
 rw[hC]
 obtain⟨C,hCe⟩ :∃C,C=t.cells:=⟨_,rfl⟩
 rw[←hCe]at hlen hrow hrng hht hr c0' c1' c2' c3' c4' ⊢
 clear c0 c1 c2 c3 c4
 have Hht:=yh hht
 have Hrng:=yh hrng
 have HL:=yh hlen
 have Ht32:=yh (Tx.yap _ ht.tag)
 clear hbt hiff hrp hlen hrow hrng hht hCe hC ht HE
 go_enter Tryz.func196,Tryz.ntmps196
 go_wp2_with (first
  | (with_reducible show wpList _ _ _ (⟨_,.load 81 _,_,_,_,_⟩::_) _ _;refine yac rfl 81 (.tmp 1) rfl w.heap.size 0 rfl C _ Hrng.out Tryz.underlying81 rfl (by rw[yam,HL.out]) ?_)
  | (with_reducible show wpList _ _ _ (⟨_,.load 62 _,_,_,_,_⟩::_) _ _;refine yac rfl 62 (.tmp 14) rfl w.heap.size 40 rfl (bRow t.tag).toList _ Hht.out Tryz.underlying62 rfl (by rw[yas,Ht32.out]) ?_)
  | (with_reducible show wpList _ _ _ (⟨_,.build 81 _,_,_,_,_⟩::_) _ _;refine yak rfl 81 [(0,.tmp 5),(1,.tmp 7),(2,.tmp 9),(3,.tmp 11),(4,.tmp 13),(9,.tmp 15)] rfl (some 16) rfl _ rfl _ (by simpa[Act.eval,Act.put] using Hbt.out) ?_))
 go_ret
 exact⟨rfl,yaw _ _ _⟩
end
end Go.Proofs.YtalfnadejpmjnaaGreatDoor
