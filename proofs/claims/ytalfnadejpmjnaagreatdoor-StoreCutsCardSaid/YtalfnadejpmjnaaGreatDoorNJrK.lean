/- A part. -/
import Derived.Test.YtalfnadejpmjnaaGreatDoorNJrA
import Derived.Shelf.Strings.Builder1
import Derived.Shelf.Strings.Trim
import Derived.Shelf.Strings.SlTrimAscii
import Derived.Laws.Externs
set_option linter.unusedVariables false
set_option linter.unusedSimpArgs false
set_option maxRecDepth 100000
set_option maxHeartbeats 25600000
namespace Go.Proofs.YtalfnadejpmjnaaGreatDoor.Jn
section
open Go.RowKit
theorem yq9 {w:World}{B:Nat}{S:Nat→Prop}{g q:Nat}{l:List Fl}{r:Int}{j:Jr.J}(h:JS w B S g q l r j)(s:List UInt8)(hs:s.length≤140737488351232)(hlen:j.len≤1000000000):Calls Tryz.prog 28 #[.pointer (some ⟨q,0,none⟩),Sb s] w fun e w'=>e=.returned (.int .i64 (Jr.addR l r j s).2.2.2)∧JTo w w' B S g q (Jr.addR l r j s).1 (Jr.addR l r j s).2.1 (Jr.addR l r j s).2.2.1:=by
 unfold Jr.addR
 have kw:=yg6 h.row
 have Kw:=yh kw
 by_cases hbr:j.broken=true
 · rw[if_pos hbr]
   rw[if_pos hbr]at kw
   have Kw:=yh kw
   have Hto:=yh (JTo.refl h)
   clear kw h
   go_enter Tryz.func28,Tryz.ntmps28
   go_wp2_with fail
   refine Kw.out.mono ?_
   rintro e w1 ⟨rfl,rfl⟩
   go_wp2_with fail
   go_ret
   exact⟨rfl,Hto.out⟩
 rw[if_neg hbr]
 rw[if_neg hbr]at kw
 have Kw:=yh kw
 clear kw
 obtain⟨sv,hsv⟩ :∃b:ByteArray,(⟨s.toArray⟩:ByteArray)=b:=⟨_,rfl⟩
 have hsz:sv.size=s.length:=by rw[←hsv];rfl
 have hS:Sb s=.string sv:=by rw[←hsv]
 rw[hS]
 by_cases hbig:4096<s.length
 · rw[if_pos hbig]
   have d1:decide ((4096:Int)<(sv.size:Int))=true:=by simp only[decide_eq_true_eq];omega
   have d1':decide (4096<sv.size)=true:=by simp only[decide_eq_true_eq];omega
   have Hto:=yh (JTo.refl h)
   clear h hbig hsz
   go_enter Tryz.func28,Tryz.ntmps28
   go_wp2_with fail
   refine Kw.out.mono ?_
   rintro e w1 ⟨rfl,rfl⟩
   go_wp2_with fail
   go_ret
   exact⟨rfl,Hto.out⟩
 rw[if_neg hbig]
 have d1:decide ((4096:Int)<(sv.size:Int))=false:=by simp only[decide_eq_false_iff_not];omega
 have d1':decide (4096<sv.size)=false:=by simp only[decide_eq_false_iff_not];omega
 have hsl:sv.data.toList=s:=by rw[←hsv]
 have kl:=fun w:World=>ykg j.len sv w (by omega) (by omega)
 rw[hsl]at kl
 have hjl:Jr.nj.length≤140737488351232:=by decide
 have hll:=Jr.lay_le j.len s
 have kA:=fun {w:World}{S:Nat→Prop}(h:DiskS w B S g l r)=>ym7 Jr.nj (Jr.lay j.len s) h hjl (by omega)
 rcases hA:appendR l r Jr.nj (Jr.lay j.len s) with⟨l1,r1,c1⟩
 rw[hA]at kA
 obtain⟨lv,hlv⟩ :∃v,Sb (Jr.lay j.len s)=v:=⟨_,rfl⟩
 obtain⟨nv,hnv⟩ :∃v,Sb Jr.nj=v:=⟨_,rfl⟩
 have kl' :∀w:World,Calls Tryz.prog 62 #[.int .i64 (j.len:Int),.string sv] w fun e w'=>e=.returned lv∧Below w.heap.size w w':=by
  intro w;rw[←hlv];exact kl w
 simp only[hlv,hnv]at kA
 have KA:=fun {w:World}{S:Nat→Prop}(h:DiskS w B S g l r)=>yh (kA h)
 have KL:=fun w:World=>yh (kl' w)
 have Hnv:=yh hnv
 clear kl kl' kA hA hlv hnv hsv hsz hS hbig hjl hll hsl hs
 have hjb:j.broken=false:=by simpa using hbr
 clear hbr
 simp only
 by_cases e1:c1=0
 · subst e1
   simp only[ne_eq,not_true_eq_false,if_false]
   have d2:decide ((0:Int)≠0)=false:=rfl
   go_enter Tryz.func28,Tryz.ntmps28
   go_wp2_with fail
   refine Kw.out.mono ?_
   rintro e w1 ⟨rfl,rfl⟩
   go_wp2_with fail
   have HJ:=yh h
   have q0:=h.row.box.1
   have q1:=h.row.box.2.1
   have q2:=h.row.box.2.2.1
   rw[Hnv.out]at q1
   refine wp_region_noPanic ?_
   refine wp_region_held_drew (S:=fun w'=>w'.cell? ⟨q,0,none⟩=some (.pointer (some ⟨g,0,none⟩))∧w'.cell? ⟨q,1,none⟩=some nv∧w'.cell? ⟨q,2,none⟩=some (.int .i64 (j.len:Int))) (by kernel_rfl) (⟨(yax rfl q 0).trans q0,(yax rfl q 1).trans q1,(yax rfl q 2).trans q2⟩) (fun gH=>?_)
   have hb3:Below w.heap.size w w.drew:=(Below.refl _ _).drew
   have HD3:=yh (HJ.out.below hb3)
   have Hb3:=yh hb3
   clear q0 q1 q2 hb3 h
   generalize w.drew=w3 at *
   refine yg 0 (.pointer (some ⟨q,0,none⟩)) rfl gH ?_
   refine yg 1 (.pointer (some ⟨q,0,none⟩)) rfl gH ?_
   refine yg 2 (.pointer (some ⟨q,0,none⟩)) rfl gH ?_
   simp only[Act.put,Ya,Yb,Yc,Yd,Ye,Yf]
   refine yg 3 (.pointer (some ⟨q,0,none⟩)) rfl gH ?_
   refine yk 4 (.pointer (some ⟨g,0,none⟩)) rfl (fun w' hSw=>by have hq:=hSw;obtain⟨c0,c1,c2⟩:=hq;go_simp) gH ?_
   refine yg 5 (.pointer (some ⟨q,0,none⟩)) rfl gH ?_
   simp only[Act.put,Ya,Yb,Yc,Yd,Ye,Yf]
   refine yg 6 (.pointer (some ⟨q,0,none⟩)) rfl gH ?_
   refine yg 7 (.pointer (some ⟨q,1,none⟩)) rfl gH ?_
   refine yk 8 (nv) rfl (fun w' hSw=>by have hq:=hSw;obtain⟨c0,c1,c2⟩:=hq;go_simp) gH ?_
   simp only[Act.put,Ya,Yb,Yc,Yd,Ye,Yf]
   refine yg 9 (.pointer (some ⟨q,0,none⟩)) rfl gH ?_
   refine yg 10 (.pointer (some ⟨q,0,none⟩)) rfl gH ?_
   refine yg 11 (.pointer (some ⟨q,2,none⟩)) rfl gH ?_
   simp only[Act.put,Ya,Yb,Yc,Yd,Ye,Yf]
   refine yk 12 (.int .i64 (j.len:Int)) rfl (fun w' hSw=>by have hq:=hSw;obtain⟨c0,c1,c2⟩:=hq;go_simp) gH ?_
   refine yg 13 (.string sv) rfl gH ?_
   refine yR 14 (by kernel_rfl) rfl (fun K1 hK1=>?_)
   try simp only[Act.put,Ya,Yb,Yc,Yd,Ye,Yf]
   go_simp
   refine Calls.mono (KL _).out ?_
   rintro e w4 ⟨rfl,hb4⟩
   have hJ4:=HD3.out.below hb4
   have HJ4:=yh hJ4
   have Hb4:=yh (Hb3.out.trans (hb4.mono Hb3.out.size))
   refine hK1.out _ _ ⟨hJ4.row.box.1,hJ4.row.box.2.1.trans (congrArg some Hnv.out),hJ4.row.box.2.2.1⟩ (fun gH=>?_)
   clear hK1 K1 hb4 hJ4
   refine yR 15 (by kernel_rfl) rfl (fun K1 hK1=>?_)
   try simp only[Act.put,Ya,Yb,Yc,Yd,Ye,Yf]
   go_simp
   refine Calls.mono (KA HJ4.out.disk).out ?_
   rintro e w5 ⟨rfl,hd,hc⟩
   have t5:JTo w w5 B S g q l1 r1 j:=JTo.trans (fun _ h=>Or.inl h) ⟨Hb4.out.os,Hb4.out.tape,Hb4.out.output,Hb4.out.size,fun i hi _=>Hb4.out.block i hi⟩ (HJ4.out.diskTo hd hc)
   obtain⟨S5,hJ5,hP5,hC5⟩:=t5
   have HJ5:=yh hJ5
   have HP5:=yh hP5
   have HC5:=yh hC5
   refine hK1.out _ _ ⟨hJ5.row.box.1,hJ5.row.box.2.1.trans (congrArg some Hnv.out),hJ5.row.box.2.2.1⟩ (fun gH=>?_)
   clear hK1 K1 hd hc hJ5 hP5 hC5
   refine yR 16 (by kernel_rfl) rfl (fun K1 hK1=>?_)
   try simp only[Act.put,Ya,Yb,Yc,Yd,Ye,Yf]
   go_simp
   refine Calls.mono (yff HJ5.out 0) ?_
   rintro e w6 ⟨rfl,t6⟩
   have t7:=JTo.trans HP5.out HC5.out t6
   have H7:=yh t7
   obtain⟨S6,hJ6,_,_⟩:=t7
   refine hK1.out _ _ ⟨hJ6.row.box.1,hJ6.row.box.2.1.trans (congrArg some Hnv.out),hJ6.row.box.2.2.1⟩ (fun gH=>?_)
   clear hK1 K1 t6 hJ6
   refine yg 17 (.int .i64 0) rfl gH ?_
   refine wpAnyH_done (by kernel_rfl) ?_ _
   refine NoPanic.normal ?_
   clear gH
   obtain⟨S8,hJ8,hP8,hC8⟩:=H7.out
   have z2:=hJ8.row.box.2.2.1
   have z3:=hJ8.row.box.2.2.2.1
   have zf:=Row.free hJ8.row 2
   have zr:=Row.set hJ8.row 2 (.int .i64 ((j.len:Int)+1)) (by simp[jcells])
   have t9:=JTo.trans hP8 hC8 (hJ8.rowTo (j':=⟨j.len+1,j.synced,false⟩) (yaq w6 q 2 (.int .i64 ((j.len:Int)+1))) (by unfold JAt;unfold jcells at zr ⊢;simpa using zr))
   have H9:=yh t9
   clear hJ8 hP8 hC8 zr t9 H7
   go_wp2_with fail
   go_ret
   exact⟨rfl,H9.out⟩
 · rw[if_pos e1]
   have d2:(c1 != 0)=true:=by simpa using e1
   have d3:decide (c1≠0)=true:=by simpa using e1
   clear e1
   go_enter Tryz.func28,Tryz.ntmps28
   go_wp2_with fail
   refine Kw.out.mono ?_
   rintro e w1 ⟨rfl,rfl⟩
   go_wp2_with fail
   have HJ:=yh h
   have q0:=h.row.box.1
   have q1:=h.row.box.2.1
   have q2:=h.row.box.2.2.1
   rw[Hnv.out]at q1
   refine wp_region_noPanic ?_
   refine wp_region_held_drew (S:=fun w'=>w'.cell? ⟨q,0,none⟩=some (.pointer (some ⟨g,0,none⟩))∧w'.cell? ⟨q,1,none⟩=some nv∧w'.cell? ⟨q,2,none⟩=some (.int .i64 (j.len:Int))) (by kernel_rfl) (⟨(yax rfl q 0).trans q0,(yax rfl q 1).trans q1,(yax rfl q 2).trans q2⟩) (fun gH=>?_)
   have hb3:Below w.heap.size w w.drew:=(Below.refl _ _).drew
   have HD3:=yh (HJ.out.below hb3)
   have Hb3:=yh hb3
   clear q0 q1 q2 hb3 h
   generalize w.drew=w3 at *
   refine yg 0 (.pointer (some ⟨q,0,none⟩)) rfl gH ?_
   simp only[Act.put,Ya,Yb,Yc,Yd,Ye,Yf]
   refine yg 1 (.pointer (some ⟨q,0,none⟩)) rfl gH ?_
   refine yg 2 (.pointer (some ⟨q,0,none⟩)) rfl gH ?_
   refine yg 3 (.pointer (some ⟨q,0,none⟩)) rfl gH ?_
   simp only[Act.put,Ya,Yb,Yc,Yd,Ye,Yf]
   refine yk 4 (.pointer (some ⟨g,0,none⟩)) rfl (fun w' hSw=>by have hq:=hSw;obtain⟨c0,c1,c2⟩:=hq;go_simp) gH ?_
   refine yg 5 (.pointer (some ⟨q,0,none⟩)) rfl gH ?_
   refine yg 6 (.pointer (some ⟨q,0,none⟩)) rfl gH ?_
   simp only[Act.put,Ya,Yb,Yc,Yd,Ye,Yf]
   refine yg 7 (.pointer (some ⟨q,1,none⟩)) rfl gH ?_
   refine yk 8 (nv) rfl (fun w' hSw=>by have hq:=hSw;obtain⟨c0,c1,c2⟩:=hq;go_simp) gH ?_
   refine yg 9 (.pointer (some ⟨q,0,none⟩)) rfl gH ?_
   simp only[Act.put,Ya,Yb,Yc,Yd,Ye,Yf]
   refine yg 10 (.pointer (some ⟨q,0,none⟩)) rfl gH ?_
   refine yg 11 (.pointer (some ⟨q,2,none⟩)) rfl gH ?_
   refine yk 12 (.int .i64 (j.len:Int)) rfl (fun w' hSw=>by have hq:=hSw;obtain⟨c0,c1,c2⟩:=hq;go_simp) gH ?_
   simp only[Act.put,Ya,Yb,Yc,Yd,Ye,Yf]
   refine yg 13 (.string sv) rfl gH ?_
   refine yR 14 (by kernel_rfl) rfl (fun K1 hK1=>?_)
   try simp only[Act.put,Ya,Yb,Yc,Yd,Ye,Yf]
   go_simp
   refine Calls.mono (KL _).out ?_
   rintro e w4 ⟨rfl,hb4⟩
   have hJ4:=HD3.out.below hb4
   have HJ4:=yh hJ4
   have Hb4:=yh (Hb3.out.trans (hb4.mono Hb3.out.size))
   refine hK1.out _ _ ⟨hJ4.row.box.1,hJ4.row.box.2.1.trans (congrArg some Hnv.out),hJ4.row.box.2.2.1⟩ (fun gH=>?_)
   clear hK1 K1 hb4 hJ4
   refine yR 15 (by kernel_rfl) rfl (fun K1 hK1=>?_)
   try simp only[Act.put,Ya,Yb,Yc,Yd,Ye,Yf]
   go_simp
   refine Calls.mono (KA HJ4.out.disk).out ?_
   rintro e w5 ⟨rfl,hd,hc⟩
   have t5:JTo w w5 B S g q l1 r1 j:=JTo.trans (fun _ h=>Or.inl h) ⟨Hb4.out.os,Hb4.out.tape,Hb4.out.output,Hb4.out.size,fun i hi _=>Hb4.out.block i hi⟩ (HJ4.out.diskTo hd hc)
   obtain⟨S5,hJ5,hP5,hC5⟩:=t5
   have HJ5:=yh hJ5
   have HP5:=yh hP5
   have HC5:=yh hC5
   refine hK1.out _ _ ⟨hJ5.row.box.1,hJ5.row.box.2.1.trans (congrArg some Hnv.out),hJ5.row.box.2.2.1⟩ (fun gH=>?_)
   clear hK1 K1 hd hc hJ5 hP5 hC5
   refine yR 16 (by kernel_rfl) rfl (fun K1 hK1=>?_)
   try simp only[Act.put,Ya,Yb,Yc,Yd,Ye,Yf]
   go_simp
   refine Calls.mono (yff HJ5.out c1) ?_
   rintro e w6 ⟨rfl,t6⟩
   have t7:=JTo.trans HP5.out HC5.out t6
   have H7:=yh t7
   obtain⟨S6,hJ6,_,_⟩:=t7
   refine hK1.out _ _ ⟨hJ6.row.box.1,hJ6.row.box.2.1.trans (congrArg some Hnv.out),hJ6.row.box.2.2.1⟩ (fun gH=>?_)
   clear hK1 K1 t6 hJ6
   refine yg 17 (.int .i64 c1) rfl gH ?_
   refine wpAnyH_done (by kernel_rfl) ?_ _
   refine NoPanic.normal ?_
   clear gH
   go_wp2_with fail
   go_ret
   rw[d3]at H7
   exact⟨rfl,H7.out⟩
theorem ytc {w:World}{B:Nat}{S:Nat→Prop}{g q:Nat}{l:List Fl}{r:Int}{j:Jr.J}(h:JS w B S g q l r j):Calls Tryz.prog 29 #[.pointer (some ⟨q,0,none⟩)] w fun e w'=>e=.returned (.int .i64 (Jr.syncJ l r j).2.2.2)∧JTo w w' B S g q (Jr.syncJ l r j).1 (Jr.syncJ l r j).2.1 (Jr.syncJ l r j).2.2.1:=by
 unfold Jr.syncJ
 have kw:=yg6 h.row
 by_cases hbr:j.broken=true
 · rw[if_pos hbr]
   rw[if_pos hbr]at kw
   have Kw:=yh kw
   have Hto:=yh (JTo.refl h)
   clear kw h
   go_enter Tryz.func29,Tryz.ntmps29
   go_wp2_with fail
   refine Kw.out.mono ?_
   rintro e w1 ⟨rfl,rfl⟩
   go_wp2_with fail
   go_ret
   exact⟨rfl,Hto.out⟩
 rw[if_neg hbr]
 rw[if_neg hbr]at kw
 have Kw:=yh kw
 clear kw
 have hjb:j.broken=false:=by simpa using hbr
 have p2:=h.row.box.2.2.1
 by_cases h0:j.len=0
 · rw[if_pos h0]
   have d1:((j.len:Int) == 0)=true:=by simp only[beq_iff_eq];omega
   have d1':decide (j.len=0)=true:=by simp only[decide_eq_true_eq];omega
   have Hto:=yh (JTo.refl h)
   clear h h0 hbr
   go_enter Tryz.func29,Tryz.ntmps29
   go_wp2_with fail
   refine Kw.out.mono ?_
   rintro e w1 ⟨rfl,rfl⟩
   go_wp2_with fail
   go_ret
   exact⟨rfl,Hto.out⟩
 rw[if_neg h0]
 have d1:((j.len:Int) == 0)=false:=by simp only[beq_eq_false_iff_ne];omega
 have d1':decide (j.len=0)=false:=by simp only[decide_eq_false_iff_not];omega
 have hjl:Jr.nj.length≤maxLen:=by decide
 have kA:=fun {w:World}{S:Nat→Prop}(h:DiskS w B S g l r)=>ypj Jr.nj h hjl
 rcases hA:syncR l r Jr.nj with⟨l1,r1,c1⟩
 rw[hA]at kA
 obtain⟨nv,hnv⟩ :∃v,Sb Jr.nj=v:=⟨_,rfl⟩
 simp only[hnv]at kA
 have KA:=fun {w:World}{S:Nat→Prop}(h:DiskS w B S g l r)=>yh (kA h)
 have Hnv:=yh hnv
 clear kA hA hnv hjl hbr h0
 simp only
 by_cases e1:c1=0
 · subst e1
   simp only[ne_eq,not_true_eq_false,if_false]
   have d2:decide ((0:Int)≠0)=false:=rfl
   go_enter Tryz.func29,Tryz.ntmps29
   go_wp2_with fail
   refine Kw.out.mono ?_
   rintro e w1 ⟨rfl,rfl⟩
   go_wp2_with fail
   have HJ:=yh h
   have q0:=h.row.box.1
   have q1:=h.row.box.2.1
   have q2:=h.row.box.2.2.1
   clear p2
   rw[Hnv.out]at q1
   refine wp_region_noPanic ?_
   refine wp_region_held_drew (S:=fun w'=>w'.cell? ⟨q,0,none⟩=some (.pointer (some ⟨g,0,none⟩))∧w'.cell? ⟨q,1,none⟩=some nv∧w'.cell? ⟨q,2,none⟩=some (.int .i64 (j.len:Int))) (by kernel_rfl) (⟨(yax rfl q 0).trans q0,(yax rfl q 1).trans q1,(yax rfl q 2).trans q2⟩) (fun gH=>?_)
   have hb3:Below w.heap.size w w.drew:=(Below.refl _ _).drew
   have HD3:=yh (HJ.out.below hb3)
   have Hb3:=yh hb3
   clear q0 q1 q2 hb3 h
   generalize w.drew=w3 at *
   refine yg 0 (.pointer (some ⟨q,0,none⟩)) rfl gH ?_
   simp only[Act.put,Ya,Yb,Yc,Yd,Ye,Yf]
   refine yg 1 (.pointer (some ⟨q,0,none⟩)) rfl gH ?_
   refine yg 2 (.pointer (some ⟨q,0,none⟩)) rfl gH ?_
   refine yg 3 (.pointer (some ⟨q,0,none⟩)) rfl gH ?_
   simp only[Act.put,Ya,Yb,Yc,Yd,Ye,Yf]
   refine yk 4 (.pointer (some ⟨g,0,none⟩)) rfl (fun w' hSw=>by have hq:=hSw;obtain⟨c0,c1,c2⟩:=hq;go_simp) gH ?_
   refine yg 5 (.pointer (some ⟨q,0,none⟩)) rfl gH ?_
   refine yg 6 (.pointer (some ⟨q,0,none⟩)) rfl gH ?_
   simp only[Act.put,Ya,Yb,Yc,Yd,Ye,Yf]
   refine yg 7 (.pointer (some ⟨q,1,none⟩)) rfl gH ?_
   refine yk 8 (nv) rfl (fun w' hSw=>by have hq:=hSw;obtain⟨c0,c1,c2⟩:=hq;go_simp) gH ?_
   refine yR 9 (by kernel_rfl) rfl (fun K1 hK1=>?_)
   try simp only[Act.put,Ya,Yb,Yc,Yd,Ye,Yf]
   go_simp
   refine Calls.mono (KA HD3.out.disk).out ?_
   rintro e w5 ⟨rfl,hd,hc⟩
   have t5:JTo w w5 B S g q l1 r1 j:=JTo.trans (fun _ h=>Or.inl h) ⟨Hb3.out.os,Hb3.out.tape,Hb3.out.output,Hb3.out.size,fun i hi _=>Hb3.out.block i hi⟩ (HD3.out.diskTo hd hc)
   obtain⟨S5,hJ5,hP5,hC5⟩:=t5
   have HJ5:=yh hJ5
   have HP5:=yh hP5
   have HC5:=yh hC5
   refine hK1.out _ _ ⟨hJ5.row.box.1,hJ5.row.box.2.1.trans (congrArg some Hnv.out),hJ5.row.box.2.2.1⟩ (fun gH=>?_)
   clear hK1 K1 hd hc hJ5 hP5 hC5
   refine yR 10 (by kernel_rfl) rfl (fun K1 hK1=>?_)
   try simp only[Act.put,Ya,Yb,Yc,Yd,Ye,Yf]
   go_simp
   refine Calls.mono (yff HJ5.out 0) ?_
   rintro e w6 ⟨rfl,t6⟩
   have t7:=JTo.trans HP5.out HC5.out t6
   have H7:=yh t7
   obtain⟨S6,hJ6,_,_⟩:=t7
   refine hK1.out _ _ ⟨hJ6.row.box.1,hJ6.row.box.2.1.trans (congrArg some Hnv.out),hJ6.row.box.2.2.1⟩ (fun gH=>?_)
   clear hK1 K1 t6 hJ6
   refine yg 11 (.int .i64 0) rfl gH ?_
   refine wpAnyH_done (by kernel_rfl) ?_ _
   refine NoPanic.normal ?_
   clear gH
   obtain⟨S8,hJ8,hP8,hC8⟩:=H7.out
   have z2:=hJ8.row.box.2.2.1
   have z3:=hJ8.row.box.2.2.2.1
   have zf:=Row.free hJ8.row 3
   have zr:=Row.set hJ8.row 3 (.int .i64 (j.len:Int)) (by simp[jcells])
   have t9:=JTo.trans hP8 hC8 (hJ8.rowTo (j':=⟨j.len,j.len,false⟩) (yaq w6 q 3 (.int .i64 (j.len:Int))) (by unfold JAt;unfold jcells at zr ⊢;simpa using zr))
   have H9:=yh t9
   clear hJ8 hP8 hC8 zr t9 H7
   go_wp2_with fail
   go_ret
   exact⟨rfl,H9.out⟩
 · rw[if_pos e1]
   have d2:(c1 != 0)=true:=by simpa using e1
   have d3:decide (c1≠0)=true:=by simpa using e1
   clear e1
   go_enter Tryz.func29,Tryz.ntmps29
   go_wp2_with fail
   refine Kw.out.mono ?_
   rintro e w1 ⟨rfl,rfl⟩
   go_wp2_with fail
   have HJ:=yh h
   have q0:=h.row.box.1
   have q1:=h.row.box.2.1
   have q2:=h.row.box.2.2.1
   clear p2
   rw[Hnv.out]at q1
   refine wp_region_noPanic ?_
   refine wp_region_held_drew (S:=fun w'=>w'.cell? ⟨q,0,none⟩=some (.pointer (some ⟨g,0,none⟩))∧w'.cell? ⟨q,1,none⟩=some nv∧w'.cell? ⟨q,2,none⟩=some (.int .i64 (j.len:Int))) (by kernel_rfl) (⟨(yax rfl q 0).trans q0,(yax rfl q 1).trans q1,(yax rfl q 2).trans q2⟩) (fun gH=>?_)
   have hb3:Below w.heap.size w w.drew:=(Below.refl _ _).drew
   have HD3:=yh (HJ.out.below hb3)
   have Hb3:=yh hb3
   clear q0 q1 q2 hb3 h
   generalize w.drew=w3 at *
   refine yg 0 (.pointer (some ⟨q,0,none⟩)) rfl gH ?_
   simp only[Act.put,Ya,Yb,Yc,Yd,Ye,Yf]
   refine yg 1 (.pointer (some ⟨q,0,none⟩)) rfl gH ?_
   refine yg 2 (.pointer (some ⟨q,0,none⟩)) rfl gH ?_
   refine yg 3 (.pointer (some ⟨q,0,none⟩)) rfl gH ?_
   simp only[Act.put,Ya,Yb,Yc,Yd,Ye,Yf]
   refine yk 4 (.pointer (some ⟨g,0,none⟩)) rfl (fun w' hSw=>by have hq:=hSw;obtain⟨c0,c1,c2⟩:=hq;go_simp) gH ?_
   refine yg 5 (.pointer (some ⟨q,0,none⟩)) rfl gH ?_
   refine yg 6 (.pointer (some ⟨q,0,none⟩)) rfl gH ?_
   simp only[Act.put,Ya,Yb,Yc,Yd,Ye,Yf]
   refine yg 7 (.pointer (some ⟨q,1,none⟩)) rfl gH ?_
   refine yk 8 (nv) rfl (fun w' hSw=>by have hq:=hSw;obtain⟨c0,c1,c2⟩:=hq;go_simp) gH ?_
   refine yR 9 (by kernel_rfl) rfl (fun K1 hK1=>?_)
   try simp only[Act.put,Ya,Yb,Yc,Yd,Ye,Yf]
   go_simp
   refine Calls.mono (KA HD3.out.disk).out ?_
   rintro e w5 ⟨rfl,hd,hc⟩
   have t5:JTo w w5 B S g q l1 r1 j:=JTo.trans (fun _ h=>Or.inl h) ⟨Hb3.out.os,Hb3.out.tape,Hb3.out.output,Hb3.out.size,fun i hi _=>Hb3.out.block i hi⟩ (HD3.out.diskTo hd hc)
   obtain⟨S5,hJ5,hP5,hC5⟩:=t5
   have HJ5:=yh hJ5
   have HP5:=yh hP5
   have HC5:=yh hC5
   refine hK1.out _ _ ⟨hJ5.row.box.1,hJ5.row.box.2.1.trans (congrArg some Hnv.out),hJ5.row.box.2.2.1⟩ (fun gH=>?_)
   clear hK1 K1 hd hc hJ5 hP5 hC5
   refine yR 10 (by kernel_rfl) rfl (fun K1 hK1=>?_)
   try simp only[Act.put,Ya,Yb,Yc,Yd,Ye,Yf]
   go_simp
   refine Calls.mono (yff HJ5.out c1) ?_
   rintro e w6 ⟨rfl,t6⟩
   have t7:=JTo.trans HP5.out HC5.out t6
   have H7:=yh t7
   obtain⟨S6,hJ6,_,_⟩:=t7
   refine hK1.out _ _ ⟨hJ6.row.box.1,hJ6.row.box.2.1.trans (congrArg some Hnv.out),hJ6.row.box.2.2.1⟩ (fun gH=>?_)
   clear hK1 K1 t6 hJ6
   refine yg 11 (.int .i64 c1) rfl gH ?_
   refine wpAnyH_done (by kernel_rfl) ?_ _
   refine NoPanic.normal ?_
   clear gH
   go_wp2_with fail
   go_ret
   rw[d3]at H7
   exact⟨rfl,H7.out⟩
end
section
open Go.Shelf
def Tryz.lays169_ren:Go.Shelf.Ren:=⟨fun|169=>88|n=>n,fun|70=>129|9=>9|0=>0|72=>131|37=>85|127=>173|3=>3|5=>5|n=>n,fun|n=>n⟩
theorem Tryz.lays169:Go.Proofs.Lays.n169 Tryz.prog Tryz.lays169_ren:={
 mixed:=by kernel_rfl
 f169:=Tryz.func88.trans (congrArg some (by kernel_rfl))
 t0:=Tryz.underlying0
 a0:=Tryz.isAgg0
 z0:=Tryz.sizeOf0
 v0:=Tryz.zeroValue0
 t3:=Tryz.underlying3
 a3:=Tryz.isAgg3
 z3:=Tryz.sizeOf3
 v3:=Tryz.zeroValue3
 t9:=Tryz.underlying9
 a9:=Tryz.isAgg9
 z9:=Tryz.sizeOf9
 v9:=Tryz.zeroValue9
 t37:=Tryz.underlying85
 a37:=Tryz.isAgg85
 z37:=Tryz.sizeOf85
 v37:=Tryz.zeroValue85
 t70:=Tryz.underlying129
 a70:=Tryz.isAgg129
 z70:=Tryz.sizeOf129
 v70:=Tryz.zeroValue129
 t72:=Tryz.underlying131
 a72:=Tryz.isAgg131
 z72:=Tryz.sizeOf131
 v72:=Tryz.zeroValue131
 t127:=Tryz.underlying173
 a127:=Tryz.isAgg173
 z127:=Tryz.sizeOf173
 v127:=Tryz.zeroValue173 }
theorem Tryz.Builder_Extra_169:Builder.Extra Tryz.prog Tryz.lays169_ren:={
 sizeBuilder:=by kernel_rfl
 liesBuilder:=by kernel_rfl
 t5:=Tryz.underlying5
 a5:=Tryz.isAgg5
 z5:=Tryz.sizeOf5
 v5:=Tryz.zeroValue5
 infoByte:=by kernel_rfl
 cellsByte:=by kernel_rfl
 sizeByte:=by kernel_rfl
 neB5:=by decide }
open Go.RowKit in
theorem Tryz.Builder_String_any (B b:Nat)(l:List UInt8)(w:World)(h:Lib.IsBuilder 131 5 B b (Lib.byteCells l) w)(hBw:B≤w.heap.size):
 Calls Tryz.prog 88 #[.pointer (some ⟨b,0,none⟩)] w fun e w'=>e=.returned (.string ⟨l.toArray⟩)∧Below B w w':=Any.Builder_String_any Tryz.lays169 Tryz.Builder_Extra_169 B b l w h hBw
def Tryz.lays160_ren:Go.Shelf.Ren:=⟨fun|160=>82|232=>117|231=>116|227=>118|234=>120|233=>119|236=>122|235=>121|228=>152|271=>155|151=>154|197=>153|120=>178|152=>177|260=>176|137=>189|119=>190|224=>191|225=>192|217=>201|266=>205|n=>n,fun|9=>9|4=>4|3=>3|5=>5|117=>168|116=>167|0=>0|124=>171|21=>21|105=>199|46=>153|119=>229|139=>232|138=>231|n=>n,fun|3=>0|4=>1|n=>n⟩
theorem Tryz.lays160:Go.Proofs.Lays.n160 Tryz.prog Tryz.lays160_ren:={
 mixed:=by kernel_rfl
 f119:=Tryz.func190.trans (congrArg some (by kernel_rfl))
 f120:=Tryz.func178.trans (congrArg some (by kernel_rfl))
 f137:=Tryz.func189.trans (congrArg some (by kernel_rfl))
 f151:=Tryz.func154.trans (congrArg some (by kernel_rfl))
 f152:=Tryz.func177.trans (congrArg some (by kernel_rfl))
 f160:=Tryz.func82.trans (congrArg some (by kernel_rfl))
 f197:=Tryz.func153.trans (congrArg some (by kernel_rfl))
 f217:=Tryz.func201.trans (congrArg some (by kernel_rfl))
 f224:=Tryz.func191.trans (congrArg some (by kernel_rfl))
 f225:=Tryz.func192.trans (congrArg some (by kernel_rfl))
 f227:=Tryz.func118.trans (congrArg some (by kernel_rfl))
 f228:=Tryz.func152.trans (congrArg some (by kernel_rfl))
 f231:=Tryz.func116.trans (congrArg some (by kernel_rfl))
 f232:=Tryz.func117.trans (congrArg some (by kernel_rfl))
 f233:=Tryz.func119.trans (congrArg some (by kernel_rfl))
 f234:=Tryz.func120.trans (congrArg some (by kernel_rfl))
 f235:=Tryz.func121.trans (congrArg some (by kernel_rfl))
 f236:=Tryz.func122.trans (congrArg some (by kernel_rfl))
 f260:=Tryz.func176.trans (congrArg some (by kernel_rfl))
 f266:=Tryz.func205.trans (congrArg some (by kernel_rfl))
 f271:=Tryz.func155.trans (congrArg some (by kernel_rfl))
 t0:=Tryz.underlying0
 a0:=Tryz.isAgg0
 z0:=Tryz.sizeOf0
 v0:=Tryz.zeroValue0
 t3:=Tryz.underlying3
 a3:=Tryz.isAgg3
 z3:=Tryz.sizeOf3
 v3:=Tryz.zeroValue3
 t4:=Tryz.underlying4
 a4:=Tryz.isAgg4
 z4:=Tryz.sizeOf4
 v4:=Tryz.zeroValue4
 t5:=Tryz.underlying5
 a5:=Tryz.isAgg5
 z5:=Tryz.sizeOf5
 v5:=Tryz.zeroValue5
 t9:=Tryz.underlying9
 a9:=Tryz.isAgg9
 z9:=Tryz.sizeOf9
 v9:=Tryz.zeroValue9
 t21:=Tryz.underlying21
 a21:=Tryz.isAgg21
 z21:=Tryz.sizeOf21
 v21:=Tryz.zeroValue21
 t46:=Tryz.underlying153
 a46:=Tryz.isAgg153
 z46:=Tryz.sizeOf153
 v46:=Tryz.zeroValue153
 t105:=Tryz.underlying199
 a105:=Tryz.isAgg199
 z105:=Tryz.sizeOf199
 v105:=Tryz.zeroValue199
 t116:=Tryz.underlying167
 a116:=Tryz.isAgg167
 z116:=Tryz.sizeOf167
 t117:=Tryz.underlying168
 a117:=Tryz.isAgg168
 z117:=Tryz.sizeOf168
 v117:=Tryz.zeroValue168
 t119:=Tryz.underlying229
 a119:=Tryz.isAgg229
 z119:=Tryz.sizeOf229
 t124:=Tryz.underlying171
 a124:=Tryz.isAgg171
 z124:=Tryz.sizeOf171
 v124:=Tryz.zeroValue171
 t138:=Tryz.underlying231
 a138:=Tryz.isAgg231
 z138:=Tryz.sizeOf231
 v138:=Tryz.zeroValue231
 t139:=Tryz.underlying232
 a139:=Tryz.isAgg232
 z139:=Tryz.sizeOf232
 v139:=Tryz.zeroValue232
 g3:=by kernel_rfl
 g4:=by kernel_rfl }
end
section
open Go.RowKit
theorem yjh (b:Nat)(w:World)(h0:w.cell? ⟨b,0,none⟩=some (.pointer (some ⟨b,0,none⟩))):
 Calls Tryz.prog 123 #[.pointer (some ⟨b,0,none⟩)] w fun e w'=>e=.returned (.tuple #[])∧w'=w:=by
 obtain⟨j,hj,_⟩:=Option.map_eq_some_iff.1 Tryz.Builder_Extra_169.sizeBuilder
 go_enter Tryz.func123,Tryz.ntmps123
 go_wp2
 rw[Lib.run_neq_ptr_same w _ Tryz.underlying129 hj]
 go_wp2
 go_end0
 exact⟨rfl,rfl⟩
theorem yhr (b:Nat)(w:World)(h0:w.cell? ⟨b,0,none⟩=some (.pointer none))(hsh:w.shape? b=some (131,2))(hfz:w.frozen? ⟨b,0,none⟩=false):
 Calls Tryz.prog 123 #[.pointer (some ⟨b,0,none⟩)] w fun e w'=>e=.returned (.tuple #[])∧w'=w.setCell ⟨b,0,none⟩ (.pointer (some ⟨b,0,none⟩)):=by
 obtain⟨j,hj,hjs⟩:=Option.map_eq_some_iff.1 Tryz.Builder_Extra_169.sizeBuilder
 go_enter Tryz.func123,Tryz.ntmps123
 go_wp2
 rw[Lib.run_to_unsafe w ⟨b,0,none⟩ Tryz.underlying129 Tryz.underlying202 hj (by rw[hjs];decide) hsh (Nat.zero_lt_succ 1)]
 simp only[Result.andThen]
 rw[Oper.upon_value]
 go_wp2
 rw[run_callFunc_extern Tryz.func156 (by kernel_rfl) (by kernel_rfl) (by kernel_rfl) (e:=Extern.AbiNoEscape.same) (by kernel_rfl)]
 rw[Lib.run_noEscape]
 simp only[Result.andThen]
 rw[Oper.upon_value]
 go_wp2
 rw[Lib.run_from_unsafe w ⟨b,0,none⟩ Tryz.underlying202 Tryz.underlying129 hj hsh Tryz.Builder_Extra_169.liesBuilder]
 simp only[Result.andThen]
 rw[Oper.upon_value]
 go_wp2
 go_end0
 exact⟨rfl,rfl⟩
theorem ykv (B b:Nat)(bs:List Value)(w:World)(h:Lib.IsBuilder 131 5 B b bs w):
 Calls Tryz.prog 123 #[.pointer (some ⟨b,0,none⟩)] w fun e w'=>e=.returned (.tuple #[])∧(Lib.BuilderAt 131 5 B b (.pointer (some ⟨b,0,none⟩)) bs w'∧Below B w w'):=by
 rcases h with h|h
 · refine(yhr b w h.cell0 h.shape h.frozen0).mono ?_
   rintro e w' ⟨rfl,rfl⟩
   exact⟨rfl,h.used _,(Below.refl B w).setCell (p:=⟨b,0,none⟩) h.1 _⟩
 · refine(yjh b w h.cell0).mono ?_
   rintro e w' ⟨rfl,rfl⟩
   exact⟨rfl,h,Below.refl B _⟩
theorem yku (B b:Nat)(bs:List Value)(s:ByteArray)(w:World)(h:Lib.IsBuilder 131 5 B b bs w)(hlen:bs.length+s.size≤140737488355328)(hBw:B≤w.heap.size):
 Calls Tryz.prog 86 #[.pointer (some ⟨b,0,none⟩),.string s] w fun e w'=>e=.returned (.tuple #[.int .i64 s.size,.nilIface])∧(Lib.BuilderAt 131 5 B b (.pointer (some ⟨b,0,none⟩)) (bs++Lib.strCells s) w'∧Below B w w'):=by
 obtain⟨i0,hi,hz0,hz1,hz2⟩:=info_parts Tryz.Builder_Extra_169.infoByte
 go_enter Tryz.func86,Tryz.ntmps86
 go_wp2_with fail
 refine(ykv B b bs _ h).mono ?_
 rintro e w1 ⟨rfl,h1,hb1⟩
 obtain⟨hB,v,hbk,hown,hne⟩:=h1
 have c0:w1.cell? ⟨b,0,none⟩=some (.pointer (some ⟨b,0,none⟩)):=by rw[Lib.cell_of_heap hbk];rfl
 have c1:w1.cell? ⟨b,1,none⟩=some v:=by rw[Lib.cell_of_heap hbk];rfl
 go_wp2_with (at_builtin;refine Lib.wpList_append_own_string _ rfl _ _ 85 9 rfl B 5 i0 Tryz.underlying85 Tryz.underlying9 hi hz0 hz1 hz2 _ _ _ rfl hown s rfl ?c3 ?c4 ?c5 ?_)
 case c3=>exact Nat.le_trans hlen (by decide)
 case c4=>omega
 case c5=>have:=hb1.size;omega
 intro v' w2 hown' hgrow _
 have hlt:b<w1.heap.size:=by
  rcases Nat.lt_or_ge b w1.heap.size with h'|h'
  · exact h'
  · simp[Array.getElem?_eq_none h']at hbk
 have hb2:w2.heap[b]? = some (.cells #[.pointer (some ⟨b,0,none⟩),v] 131 (0,0)):=by
  rw[hgrow.block b hlt (fun e=>hne e.symm)]
  exact hbk
 have d0:w2.cell? ⟨b,0,none⟩=some (.pointer (some ⟨b,0,none⟩)):=by rw[Lib.cell_of_heap hb2];rfl
 have d1:w2.cell? ⟨b,1,none⟩=some v:=by rw[Lib.cell_of_heap hb2];rfl
 have f1:w2.frozen? ⟨b,1,none⟩=false:=Lib.frozen_of_heap hb2 1
 obtain⟨ao,n',cap,rfl⟩ :∃ao n' cap,v'=.slice ao n' cap:=by
  rcases hown'.2 with⟨hv,_⟩|⟨g,cap,cur,hv,_⟩
  · exact⟨_,_,_,hv⟩
  · exact⟨_,_,_,hv⟩
 go_wp2
 go_ret2
 refine⟨rfl,?_,?_⟩
 · exact Lib.BuilderAt.put (T:=131) (e:=5) hB hb2 (bs':=bs++Lib.strCells s) (by simpa[Lib.strCells_length] using hown') (by decide)
 · exact(hb1.grown hgrow (by have:=hb1.size;omega) (fun k hk=>(hown.lt k hk).1)).setCell (p:=⟨b,1,none⟩) hB _
abbrev letters:List UInt8:=[97,98,99,100,101,102,103,104,105,106,107,108,109,110,111,112,113,114,115,116,117,118,119,120,121,122,48,49,50,51,52,53,54,55,56,57,46]
theorem trim_j (w:World):Calls Tryz.prog 82 #[.string ⟨#[108,111,103]⟩,.string ⟨#[97,98,99,100,101,102,103,104,105,106,107,108,109,110,111,112,113,114,115,116,117,118,119,120,121,122,48,49,50,51,52,53,54,55,56,57,46]⟩] w fun e w'=>e=.returned (.string ⟨#[]⟩)∧Below w.heap.size w w':=by
 refine(Any.strings_Trim_set Tryz.lays160 (fun w=>Tryz.zeroValue166 w) (by kernel_rfl) ⟨#[108,111,103]⟩ ⟨letters.toArray⟩ w (by decide) (by decide) (by decide) (by decide) (fun j b hj=>?_)).mono ?_
 · have hm:b∈letters:=List.mem_of_getElem? hj
   have key :∀x∈letters,x.toNat<128:=by decide
   exact key b hm
 · rintro e w' ⟨rfl,q,rfl⟩
   refine⟨?_,yhh (((Below.refl _ _).alloc (Nat.le_refl _) _).alloc (by simp) _) q⟩
   have:Lib.trimS [108,111,103] letters=[]:=by decide
   show Ending.returned (.string ⟨(Lib.trimS [108,111,103] letters).toArray⟩)=_
   rw[this]
theorem ytf (w:World):Calls Tryz.prog 53 #[Sb [108,111,103]] w fun e w'=>e=.returned (.bool true)∧Below w.heap.size w w':=by
 show Calls Tryz.prog 53 #[.string ⟨#[108,111,103]⟩] w _
 have hz:(⟨#[108,111,103]⟩:ByteArray).size=3:=rfl
 go_enter Tryz.func53,Tryz.ntmps53
 go_wp2_with fail
 refine(trim_j _).mono ?_
 rintro e w1 ⟨rfl,hb⟩
 go_wp2_with fail
 go_ret
 exact⟨rfl,hb⟩
end
section
open Go.RowKit
def InL (w:World)(v:Value)(L:List (List UInt8)):Prop :=∃A c,v=.slice A L.length c∧(L≠[]→∃b,A=some ⟨b,0,none⟩∧b<w.heap.size∧∀i (h:i<L.length),w.cell? ⟨b,i,none⟩=some (S L[i]))
theorem Lst.inL {w:World}{base:Nat}{v:Value}{L:List (List UInt8)}(h:Lst w base v L):InL w v L:=by
 obtain⟨A,c,hv,hr⟩:=h
 refine⟨A,c,hv,fun hne=>?_⟩
 obtain⟨b,h1,h2,h3,h4⟩:=hr hne
 exact⟨b,h1,h3,h4⟩
theorem yru (w:World):Lib.IsBuilder 131 5 w.heap.size w.heap.size [] (w.alloc (.cells #[.pointer none,.slice none 0 0] 131)):=
 .inl ⟨Nat.le_refl _,.slice none 0 0,heap_alloc_new _ _,World.ownsRow_nil _ _ _ _,by simp[Value.ownBlock]⟩
theorem yg7 {T e:TypeId}{B b:Nat}{bs:List Value}{w w':World}(h:Lib.IsBuilder T e B b bs w)(hb:Below w.heap.size w w'):Lib.IsBuilder T e B b bs w':=by
 have key :∀p,Lib.BuilderAt T e B b p bs w→Lib.BuilderAt T e B b p bs w':=by
  rintro p ⟨h1,v,h2,h3,h4⟩
  exact⟨h1,v,(hb.block b (lt_of_block h2)).trans h2,yb8 h3 hb,h4⟩
 rcases h with h|h
 · exact .inl (key _ h)
 · exact .inr (key _ h)
theorem yjf (a b:List UInt8)(s:ByteArray)(h:s.data.toList=b):Lib.byteCells a++Lib.strCells s=Lib.byteCells (a++b):=by
 subst h
 simp[Lib.byteCells,Lib.strCells]
theorem yke {w:World}{B:Nat}{S0:Nat→Prop}{g q:Nat}{l:List Fl}{r:Int}{j:Jr.J}(h:JS w B S0 g q l r j)(v:Value)(L:List (List UInt8))(hv:InL w v L)(hL:L.length≤1000000000):Calls Tryz.prog 57 #[.pointer (some ⟨q,0,none⟩),v] w fun e w'=>e=.returned (.int .i64 (Jr.renewR l r j L).2.2.2)∧JTo w w' B S0 g q (Jr.renewR l r j L).1 (Jr.renewR l r j L).2.1 (Jr.renewR l r j L).2.2.1:=by
 unfold Jr.renewR
 obtain⟨A,c,rfl,hcs⟩:=hv
 have kw:=yg6 h.row
 by_cases hbr:j.broken=true
 · rw[if_pos hbr]
   rw[if_pos hbr]at kw
   have Kw:=yh kw
   have Hto:=yh (JTo.refl h)
   clear kw h hcs
   go_enter Tryz.func57,Tryz.ntmps57
   go_wp2_with fail
   refine Kw.out.mono ?_
   rintro e w1 ⟨rfl,rfl⟩
   go_wp2_with fail
   go_ret
   exact⟨rfl,Hto.out⟩
 rw[if_neg hbr]
 rw[if_neg hbr]at kw
 obtain⟨R,hR0⟩ :∃x,(if¬(∀s∈L,s.length≤4096) then (l,r,j,3) else
  if (Jr.replaceR l r (Jr.lays 0 L)).2.2≠0 then ((Jr.replaceR l r (Jr.lays 0 L)).1,(Jr.replaceR l r (Jr.lays 0 L)).2.1,⟨j.len,j.synced,true⟩,(Jr.replaceR l r (Jr.lays 0 L)).2.2)
  else ((Jr.replaceR l r (Jr.lays 0 L)).1,(Jr.replaceR l r (Jr.lays 0 L)).2.1,⟨L.length,L.length,false⟩,0):List Fl×Int×Jr.J×Int)=x:=⟨_,rfl⟩
 rw[hR0]
 have HR0:=yh hR0
 clear hR0
 have Kw:=yh kw
 have Hh:=yh h
 have Hcs:=yh hcs
 have hjb:j.broken=false:=by simpa using hbr
 clear kw h hcs hbr
 go_enter Tryz.func57,Tryz.ntmps57
 go_wp2_with fail
 refine Kw.out.mono ?_
 rintro e w1 ⟨rfl,rfl⟩
 go_wp2_with fail
 have hb1:Below w.heap.size w (w.alloc (.cells #[.pointer none,.slice none 0 0] 131)):=(Below.refl _ _).alloc (Nat.le_refl _) _
 have hbu:=yru w
 generalize w.alloc (.cells #[.pointer none,.slice none 0 0] 131)=W1 at *
 have Hb1:=yh hb1
 have Hbu:=yh hbu
 clear hb1 hbu
 go_loopw [17] (fun i wr =>∃k:Nat,k≤L.length∧i=.int .i64 (k:Int)∧Lib.IsBuilder 131 5 w.heap.size w.heap.size (Lib.byteCells (Jr.lays 0 (L.take k))) wr∧Below w.heap.size w wr∧∀s∈L.take k,s.length≤4096) (fun i _=>L.length-(intOf i).toNat)
 case atStart=>exact⟨0,by omega,rfl,by simpa[Jr.lays,Lib.byteCells] using Hbu.out,Hb1.out,by simp⟩
 case round=>
  obtain⟨k,hk,rfl,hbu,hbr,hsm⟩:=hrel
  by_cases hlt:k<L.length
  · have d1:decide ((k:Int)<(L.length:Int))=true:=by simp only[decide_eq_true_eq];omega
    have d1':decide (k<L.length)=true:=by simp only[decide_eq_true_eq];omega
    obtain⟨b,rfl,hbl,hc⟩:=Hcs.out (by rintro rfl;simp at hlt)
    have hck:=hc k hlt
    have hcell:wr.cell? ⟨b,k,none⟩=some (S L[k]):=by rw[←hck];exact World.cell?_of_block (a:=⟨b,k,none⟩) (hbr.block b hbl)
    obtain⟨s,hs⟩ :∃s:ByteArray,(⟨L[k].toArray⟩:ByteArray)=s:=⟨_,rfl⟩
    have hsl:s.data.toList=L[k]:=by rw[←hs]
    have hsz:s.size=L[k].length:=by rw[←hs];rfl
    have hSv:S L[k]=.string s:=by rw[←hs]
    rw[hSv]at hcell
    have hsucc:L.take (k+1)=L.take k ++ [L[k]]:=List.take_succ_eq_append_getElem hlt
    have Hsm:=yh hsm
    have Hbu:=yh hbu
    have Hbr:=yh hbr
    have Hsucc:=yh hsucc
    have Hsl:=yh hsl
    by_cases hbig:4096<s.size
    · have d2:decide ((4096:Int)<(s.size:Int))=true:=by simp only[decide_eq_true_eq];omega
      have d2':decide (4096<s.size)=true:=by simp only[decide_eq_true_eq];omega
      have hno :¬∀s∈L,s.length≤4096:=fun hall=>by
       have:=hall L[k] (List.getElem_mem hlt)
       omega
      have Hno:=yh hno
      have Hto:=yh (Hh.out.belowTo Hbr.out)
      clear hno hbu hbr hsm hc hck hs hsl hSv hsucc hsz hbl
      go_wp2_with fail
      go_ret
      have e:=HR0.out
      rw[if_pos Hno.out]at e
      subst e
      exact⟨rfl,Hto.out⟩
    · have d2:decide ((4096:Int)<(s.size:Int))=false:=by simp only[decide_eq_false_iff_not];omega
      have d2':decide (4096<s.size)=false:=by simp only[decide_eq_false_iff_not];omega
      have hsz4:s.size≤4096:=by omega
      have klay:=fun W:World=>ykg k s W (by omega) (by omega)
      have hll:=Jr.lay_le k s.data.toList
      have hlens:=Jr.lays_len_le 0 (L.take k) Hsm.out
      have htk:(L.take k).length=k:=by rw[List.length_take];omega
      rw[htk]at hlens
      have hsm2 :∀x∈L.take (k+1),x.length≤4096:=by
       rw[hsucc]
       intro x hx
       rcases List.mem_append.1 hx with hx|hx
       · exact Hsm.out x hx
       · have:x=L[k]:=by simpa using hx
         rw[this];omega
      have hlays2:Jr.lays 0 (L.take (k+1))=Jr.lays 0 (L.take k)++Jr.lay k s.data.toList:=by
       rw[hsucc,Jr.yi6,htk,hsl];simp[Jr.lays]
      have hsd:s.data.toList.length=s.size:=rfl
      obtain⟨lb,hlb⟩ :∃lb:ByteArray,(⟨(Jr.lay k s.data.toList).toArray⟩:ByteArray)=lb:=⟨_,rfl⟩
      have hlbl:lb.data.toList=Jr.lay k s.data.toList:=by rw[←hlb]
      have hlbz:lb.size=(Jr.lay k s.data.toList).length:=by rw[←hlb];rfl
      have klay2 :∀W:World,Calls Tryz.prog 62 #[.int .i64 (k:Int),.string s] W fun e w'=>e=.returned (.string lb)∧Below W.heap.size W w':=by
       intro W;rw[←hlb];exact klay W
      have hbc:(Lib.byteCells (Jr.lays 0 (L.take k))).length=(Jr.lays 0 (L.take k)).length:=by simp[Lib.byteCells]
      have hfit:(Lib.byteCells (Jr.lays 0 (L.take k))).length+lb.size≤140737488355328:=by rw[hbc,hlbz];omega
      have happ:Lib.byteCells (Jr.lays 0 (L.take k))++Lib.strCells lb=Lib.byteCells (Jr.lays 0 (L.take (k+1))):=by rw[yjf _ _ _ hlbl,hlays2]
      have Klay:=yh klay2
      have Hsm2:=yh hsm2
      have Hfit:=yh hfit
      have Happ:=yh happ
      clear klay klay2 hsm2 hfit happ hlays2 hlens hll hlb hlbl hlbz hbc htk hsd hbu hbr hsm hc hck hs hsl hSv hsucc hsz hbl
      go_wp2_with fail
      refine(Klay.out _).mono ?_
      rintro e w2 ⟨rfl,hb2⟩
      have hbu2:Lib.IsBuilder 131 5 w.heap.size w.heap.size (Lib.byteCells (Jr.lays 0 (L.take k))) w2:=yg7 Hbu.out hb2
      have hbr2:=Hbr.out.trans (hb2.mono Hbr.out.size)
      have Hbu2:=yh hbu2
      have Hbr2:=yh hbr2
      clear hb2 hbu2 hbr2
      go_wp2_with fail
      refine(yku w.heap.size w.heap.size _ lb _ Hbu2.out Hfit.out Hbr2.out.size).mono ?_
      rintro e w3 ⟨rfl,hbu3,hb3⟩
      rw[Happ.out]at hbu3
      have Hbu3:=yh hbu3
      have Hbr3:=yh (Hbr2.out.trans hb3)
      clear hbu3 hb3
      go_wp2_with fail
      refine⟨⟨k+1,by omega,by go_num,.inr Hbu3.out,Hbr3.out,Hsm2.out⟩,by simp[intOf];omega⟩
  · have d1:decide ((k:Int)<(L.length:Int))=false:=by simp only[decide_eq_false_iff_not];omega
    have d1':decide (k<L.length)=false:=by simp only[decide_eq_false_iff_not];omega
    have htk:L.take k=L:=List.take_of_length_le (by omega)
    rw[htk]at hbu hsm
    have hlens:=Jr.lays_len_le 0 L hsm
    have hno :¬¬∀s∈L,s.length≤4096:=fun hno=>hno hsm
    have hbw:=hbr.size
    have kS:=Tryz.Builder_String_any w.heap.size w.heap.size (Jr.lays 0 L) wr hbu hbw
    obtain⟨sv,hsv⟩ :∃v,Sb (Jr.lays 0 L)=v:=⟨_,rfl⟩
    have kS':Calls Tryz.prog 88 #[.pointer (some ⟨w.heap.size,0,none⟩)] wr fun e w'=>e=.returned sv∧Below w.heap.size wr w':=by
     rw[←hsv];exact kS
    have kR:=fun {w:World}{S:Nat→Prop}(h:JS w B S g q l r j)=>ylx h (Jr.lays 0 L) (by omega)
    rcases hR:Jr.replaceR l r (Jr.lays 0 L) with⟨l1,r1,c1⟩
    rw[hR]at kR
    simp only[hsv]at kR
    have KR:=fun {w:World}{S:Nat→Prop}(h:JS w B S g q l r j)=>yh (kR h)
    have KS:=yh kS'
    have Hno:=yh hno
    have Hbr:=yh hbr
    have HR:=yh hR
    clear kS kS' kR hR hsv hno hbu hbr hsm htk hlens hbw
    by_cases e1:c1=0
    · subst e1
      have d3:decide ((0:Int)≠0)=false:=rfl
      go_wp2_with fail
      refine KS.out.mono ?_
      rintro e w5 ⟨rfl,hb5⟩
      have hJ5:=Hh.out.below (Hbr.out.trans hb5)
      have HJ5:=yh hJ5
      have Hb5:=yh (Hbr.out.trans hb5)
      clear hb5 hJ5
      go_wp2_with fail
      refine(KR HJ5.out).out.mono ?_
      rintro e w6 ⟨rfl,t6⟩
      have t6':JTo w w6 B S0 g q l1 r1 j:=JTo.trans (fun _ h=>Or.inl h) ⟨Hb5.out.os,Hb5.out.tape,Hb5.out.output,Hb5.out.size,fun i hi _=>Hb5.out.block i hi⟩ t6
      obtain⟨S6,hJ6,hP6,hC6⟩:=t6'
      have HJ6:=yh hJ6
      have HP6:=yh hP6
      have HC6:=yh hC6
      clear t6 hJ6 hP6 hC6
      go_wp2_with fail
      refine(yff HJ6.out 0).mono ?_
      rintro e w8 ⟨rfl,t8⟩
      have t9':=JTo.trans HP6.out HC6.out t8
      have H7:=yh t9'
      clear t8 t9'
      obtain⟨S8,hJ8,hP8,hC8⟩:=H7.out
      have z2:=hJ8.row.box.2.2.1
      have z3:=hJ8.row.box.2.2.2.1
      have zf2:=Row.free hJ8.row 2
      have zf3:=Row.free hJ8.row 3
      have zr:=Row.set hJ8.row 2 (.int .i64 (L.length:Int)) (by simp[jcells])
      have zr2:=Row.set zr 3 (.int .i64 (L.length:Int)) (by simp[jcells])
      have y3:=Row.cell zr 3 (by simp[jcells])
      have yf3:=Row.free zr 3
      simp only[jcells,List.set,List.getElem_cons_succ,List.getElem_cons_zero]at y3
      have t9:=JTo.trans hP8 hC8 (hJ8.rowTo (j':=⟨L.length,L.length,false⟩) (World.grownBy.trans (yaq w8 q 2 (.int .i64 (L.length:Int))) (yaq _ q 3 (.int .i64 (L.length:Int)))) (by unfold JAt;unfold jcells at zr2 ⊢;simpa using zr2))
      have H9:=yh t9
      clear hJ8 hP8 hC8 zr zr2 t9 H7
      go_wp2_with fail
      go_ret
      have e:=HR0.out
      rw[if_neg Hno.out,HR.out]at e
      simp only[ne_eq,not_true_eq_false,if_false]at e
      subst e
      exact⟨rfl,H9.out⟩
    · have d2:(c1 != 0)=true:=by simpa using e1
      have d3:decide (c1≠0)=true:=by simpa using e1
      have E1:=yh e1
      clear e1
      go_wp2_with fail
      refine KS.out.mono ?_
      rintro e w5 ⟨rfl,hb5⟩
      have hJ5:=Hh.out.below (Hbr.out.trans hb5)
      have HJ5:=yh hJ5
      have Hb5:=yh (Hbr.out.trans hb5)
      clear hb5 hJ5
      go_wp2_with fail
      refine(KR HJ5.out).out.mono ?_
      rintro e w6 ⟨rfl,t6⟩
      have t6':JTo w w6 B S0 g q l1 r1 j:=JTo.trans (fun _ h=>Or.inl h) ⟨Hb5.out.os,Hb5.out.tape,Hb5.out.output,Hb5.out.size,fun i hi _=>Hb5.out.block i hi⟩ t6
      obtain⟨S6,hJ6,hP6,hC6⟩:=t6'
      have HJ6:=yh hJ6
      have HP6:=yh hP6
      have HC6:=yh hC6
      clear t6 hJ6 hP6 hC6
      go_wp2_with fail
      refine(yff HJ6.out c1).mono ?_
      rintro e w8 ⟨rfl,t8⟩
      have t9':=JTo.trans HP6.out HC6.out t8
      have H7:=yh t9'
      clear t8 t9'
      go_wp2_with fail
      go_ret
      rw[d3]at H7
      have e:=HR0.out
      rw[if_neg Hno.out,HR.out]at e
      simp only at e
      rw[if_pos E1.out]at e
      subst e
      exact⟨rfl,H7.out⟩
end
section
namespace Jr
theorem lays_nil {i:Nat}{L:List (List UInt8)}(h:(lays i L).length=0):L=[]:=by
 cases L with
 | nil=>rfl
 | cons r L=>
   have:=yi7 i r
   simp only[lays,List.length_append]at h
   omega
structure Inv (o:Option (List UInt8×Int))(j:J)(all:List (List UInt8))(safe:Nat):Prop where
 bytes:by_ o=lays 0 all
 safe_in:((lays 0 (all.take safe)).length:Int)≤sf o
 safe0:0≤sf o
 safe1:sf o≤(by_ o).length
 big:(by_ o).length≤1048576
 small :∀s∈all,s.length≤4096
 len:j.len=all.length
 ok:j.broken=false
 safe_le:safe≤all.length
def Done (l:List Fl)(all:List (List UInt8))(safe:Nat):Prop:=
 ∃(o x:Option (List UInt8×Int)) (n:Nat),l=St o x∧n≤all.length∧by_ o=lays 0 (all.take n)∧safe≤n∧((lays 0 (all.take safe)).length:Int)≤sf o∧0≤sf o∧sf o≤(by_ o).length∧(by_ o).length≤1048576∧∀s∈all.take n,s.length≤4096
variable {l : List Fl} {o : Option (List UInt8 × Int)} {r : Int} {j : J} {all : List (List UInt8)} {safe : Nat}
theorem Inv.more (h:Inv o j all safe)(x:Option (List UInt8×Int))(more:List (List UInt8)):Done (St o x) (all++more) safe:=by
 have hs:=h.safe_le
 refine⟨o,x,all.length,rfl,by simp,?_,hs,?_,h.safe0,h.safe1,h.big,?_⟩
 · rw[h.bytes,List.take_left]
 · rw[List.take_append_of_le_length hs];exact h.safe_in
 · rw[List.take_left];exact h.small
theorem Inv.done (h:Inv o j all safe)(x:Option (List UInt8×Int)):Done (St o x) all safe:=by
 have:=h.more x []
 rwa[List.append_nil]at this
theorem Inv.add (h:Inv o j all safe)(s:List UInt8)(hs:s.length≤4096):((addR (St o none) r j s).2.2.2=0∧∃o',(addR (St o none) r j s).1=St o' none∧Inv o' (addR (St o none) r j s).2.2.1 (all ++ [s]) safe)∨((addR (St o none) r j s).2.2.2≠0∧Done (addR (St o none) r j s).1 (all ++ [s]) safe):=by
 have hd:=h.more none [s]
 have h2:=h.bytes
 have h1:=h.safe1
 unfold addR
 rw[if_neg (by rw[h.ok];simp),if_neg (by omega)]
 by_cases hr:r=0
 · have ha:appendR (St o none) r nj (lay j.len s)=(St o none,r,8):=by unfold appendR;rw[if_pos hr]
   rw[ha]
   exact .inr ⟨by simp,by simpa using hd⟩
 · by_cases hbig:1048576<(by_ o).length+(lay j.len s).length
   · have ha:appendR (St o none) r nj (lay j.len s)=(St o none,r,3):=by rw[append_j hr,if_pos hbig]
     rw[ha]
     exact .inr ⟨by simp,by simpa using hd⟩
   · have ha:appendR (St o none) r nj (lay j.len s)=(St (some (by_ o++lay j.len s,sf o)) none,oneR r,0):=by rw[append_j hr,if_neg hbig]
     rw[ha]
     refine .inl ⟨by simp,some (by_ o++lay j.len s,sf o),by simp,⟨?_,?_,h.safe0,?_,?_,?_,?_,by simp,?_⟩⟩
     · show by_ o++_=_
       rw[h2,yi6,h.len];simp[lays]
     · rw[List.take_append_of_le_length h.safe_le];exact h.safe_in
     · show sf o≤((by_ o++_).length:Nat)
       rw[List.length_append];omega
     · show (by_ o++_).length≤_
       rw[List.length_append];omega
     · intro q hq
       rcases List.mem_append.1 hq with hq|hq
       · exact h.small q hq
       · simp at hq;subst hq;exact hs
     · simp[h.len]
     · have:=h.safe_le;rw[List.length_append];omega
theorem Inv.sync (h:Inv o j all safe):((syncJ (St o none) r j).2.2.2=0∧∃o',(syncJ (St o none) r j).1=St o' none∧Inv o' (syncJ (St o none) r j).2.2.1 all all.length)∨((syncJ (St o none) r j).2.2.2≠0∧Done (syncJ (St o none) r j).1 all safe):=by
 have hd:=h.done none
 have h2:=h.bytes
 unfold syncJ
 rw[if_neg (by rw[h.ok];simp)]
 by_cases hl:j.len=0
 · rw[if_pos hl]
   have ha:all=[]:=List.eq_nil_of_length_eq_zero (by rw[←h.len];exact hl)
   subst ha
   exact .inl ⟨rfl,o,rfl,⟨h.bytes,by simpa[lays] using h.safe0,h.safe0,h.safe1,h.big,h.small,h.len,h.ok,Nat.le_refl _⟩⟩
 · rw[if_neg hl]
   by_cases hr:r=0
   · have ha:syncR (St o none) r nj=(St o none,r,8):=by unfold syncR;rw[if_pos hr]
     rw[ha]
     exact .inr ⟨by simp,by simpa using hd⟩
   · cases o with
     | none=>
       exfalso
       have h7:(lays 0 all).length=0:=by rw[←h2];rfl
       have:=lays_nil h7
       rw[h.len,this]at hl
       exact hl rfl
     | some p=>
       have ha:syncR (St (some p) none) r nj=(St (some (p.1,(p.1.length:Int))) none,oneR r,0):=by rw[sync_j hr]
       rw[ha]
       refine .inl ⟨by simp,some (p.1,(p.1.length:Int)),by simp,⟨h2,?_,?_,?_,h.big,h.small,by simpa using h.len,by simp,Nat.le_refl _⟩⟩
       · rw[List.take_length,←h2];exact Int.le_refl _
       · show (0:Int)≤(p.1.length:Int);omega
       · exact Int.le_refl _
theorem ynr (o:Option (List UInt8×Int))(r:Int)(s:List UInt8):((replaceR (St o none) r s).2.2=0∧(replaceR (St o none) r s).1=St (some (s,(s.length:Int))) none∧s.length≤1048576)∨((replaceR (St o none) r s).2.2≠0∧∃x,(replaceR (St o none) r s).1=St o x):=by
 unfold replaceR
 by_cases hr:r=0
 · have ha:appendR (St o none) r nx s=(St o none,r,8):=by unfold appendR;rw[if_pos hr]
   rw[ha]
   exact .inr ⟨by simp,none,by simp⟩
 · by_cases hbig:1048576<s.length
   · have ha:appendR (St o none) r nx s=(St o none,r,3):=by rw[yjl hr,if_pos (by simpa[by_] using hbig)]
     rw[ha]
     exact .inr ⟨by simp,none,by simp⟩
   · have ha:appendR (St o none) r nx s=(St o (some (s,0)),oneR r,0):=by rw[yjl hr,if_neg (by simpa[by_] using hbig)];rfl
     rw[ha]
     by_cases hr2:oneR r=0
     · have hb:syncR (St o (some (s,0))) (oneR r) nx=(St o (some (s,0)),oneR r,8):=by unfold syncR;rw[if_pos hr2]
       simp only[hb]
       exact .inr ⟨by simp,some (s,0),by simp⟩
     · have hb:syncR (St o (some (s,0))) (oneR r) nx=(St o (some (s,(s.length:Int))),oneR (oneR r),0):=by rw[ytx hr2]
       simp only[hb]
       by_cases hr3:oneR (oneR r)=0
       · have hc:renameR (St o (some (s,(s.length:Int)))) (oneR (oneR r)) nx nj=(St o (some (s,(s.length:Int))),oneR (oneR r),8):=by unfold renameR;rw[if_pos hr3]
         simp only[hc]
         exact .inr ⟨by simp,some (s,(s.length:Int)),by simp⟩
       · have hc:renameR (St o (some (s,(s.length:Int)))) (oneR (oneR r)) nx nj=(St (some (s,(s.length:Int))) none,oneR (oneR (oneR r)),0):=by rw[ymm hr3]
         simp only[hc]
         exact .inl ⟨by simp,by simp,by omega⟩
theorem Inv.renew (h:Inv o j all safe)(m:List (List UInt8))(hm :∀s∈m,s.length≤4096):((renewR (St o none) r j m).2.2.2=0∧∃o',(renewR (St o none) r j m).1=St o' none∧Inv o' (renewR (St o none) r j m).2.2.1 m m.length)∨((renewR (St o none) r j m).2.2.2≠0∧Done (renewR (St o none) r j m).1 all safe):=by
 unfold renewR
 rw[if_neg (by rw[h.ok];simp),if_neg (by simpa using hm)]
 rcases ynr o r (lays 0 m) with⟨h0,h1,h2⟩|⟨h0,x,h1⟩
 · rw[if_neg (by simpa using h0)]
   refine .inl ⟨rfl,_,h1,⟨rfl,?_,?_,Int.le_refl _,h2,hm,rfl,rfl,Nat.le_refl _⟩⟩
   · rw[List.take_length];exact Int.le_refl _
   · show (0:Int)≤((lays 0 m).length:Int);omega
 · rw[if_pos h0]
   refine .inr ⟨h0,?_⟩
   show Done (replaceR (St o none) r (lays 0 m)).1 all safe
   rw[h1]
   exact h.done x
end Jr
end
section
open Go.RowKit
def LstA (w:World)(base:Nat)(S0:Nat→Prop)(q:Nat)(v:Value)(L:List (List UInt8)):Prop:=
 ∃A c,v=.slice A L.length c∧(L≠[]→∃b,A=some ⟨b,0,none⟩∧base≤b∧b<w.heap.size∧¬S0 b∧b≠q∧∀i (h:i<L.length),w.cell? ⟨b,i,none⟩=some (S L[i]))
theorem LstA.inL {w:World}{base:Nat}{S0:Nat→Prop}{q:Nat}{v:Value}{L:List (List UInt8)}(h:LstA w base S0 q v L):InL w v L:=by
 obtain⟨A,c,hv,hr⟩:=h
 refine⟨A,c,hv,fun hne=>?_⟩
 obtain⟨b,h1,h2,h3,_,_,h4⟩:=hr hne
 exact⟨b,h1,h3,h4⟩
theorem LstA.kept {w w':World}{base:Nat}{S0 S1:Nat→Prop}{q:Nat}{v:Value}{L:List (List UInt8)}(h:LstA w base S0 q v L)(h1 :∀k,S1 k→S0 k∨w.heap.size≤k)(hc:Chg (fun k=>S0 k∨k=q) w w'):LstA w' base S1 q v L:=by
 obtain⟨A,c,hv,hr⟩:=h
 refine⟨A,c,hv,fun hne=>?_⟩
 obtain⟨b,e1,e2,e3,e4,e5,e6⟩:=hr hne
 refine⟨b,e1,e2,Nat.lt_of_lt_of_le e3 hc.size,fun hs=>?_,e5,fun i hi=>?_⟩
 · rcases h1 b hs with h|h
   · exact e4 h
   · omega
 · rw[←e6 i hi]
   exact World.cell?_of_block (a:=⟨b,i,none⟩) (hc.block b e3 (fun h=>by rcases h with h|h;exact e4 h;exact e5 h))
def OpenTo (w w':World)(B:Nat)(S0:Nat→Prop)(g:Nat)(l:List Fl)(r:Int)(j:Jr.J)(L:List (List UInt8))(e:Ending):Prop:=
 ∃(q:Nat) (v:Value) (S1:Nat→Prop),e=.returned (.tuple #[.pointer (some ⟨q,0,none⟩),v,.int .i64 0])∧JS w' B S1 g q l r j∧w.heap.size≤q∧q<w'.heap.size∧(∀k,S1 k→S0 k∨w.heap.size≤k)∧Chg S0 w w'∧LstA w' w.heap.size S1 q v L
theorem yq4 (i:Nat)(L:List (List UInt8)):L.length≤(Jr.lays i L).length:=by
 induction L generalizing i with
 | nil=>simp
 | cons r L ih=>
   have h1:=Jr.yi7 i r
   have h2:=ih (i+1)
   simp only[Jr.lays,List.length_append,List.length_cons]
   omega
theorem ykq {S0 S1:Nat→Prop}{q:Nat}{a b c:World}(h:Chg S0 a b)(h2:Chg (fun k=>S1 k∨k=q) b c)(hS :∀k,S1 k→S0 k∨a.heap.size≤k)(hq:a.heap.size≤q):Chg S0 a c:=
 h.trans h2 (fun i hi=>by rcases hi with hi|hi;exact hS i hi;exact .inr (by omega))
theorem ytd {w:World}{B g:Nat}{S0:Nat→Prop}{o x:Option (List UInt8×Int)}(h:DiskS w B S0 g (Jr.St o x) (-1))(ho:(Jr.by_ o).length≤1048576):
 Calls Tryz.prog 27 #[.pointer (some ⟨g,0,none⟩),Sb Jr.nj] w fun e w'=>OpenTo w w' B S0 g (Jr.St (o.map fun _=>(Jr.lays 0 (Jr.parse (Jr.by_ o)).1,((Jr.lays 0 (Jr.parse (Jr.by_ o)).1).length:Int))) none) (-1) ⟨(Jr.parse (Jr.by_ o)).1.length,(Jr.parse (Jr.by_ o)).1.length,false⟩ (Jr.parse (Jr.by_ o)).1 e:=by
 obtain⟨NX,hNX⟩ :∃b:ByteArray,(⟨#[108,111,103,120]⟩:ByteArray)=b:=⟨_,rfl⟩
 obtain⟨NJ,hNJ⟩ :∃b:ByteArray,(⟨#[108,111,103]⟩:ByteArray)=b:=⟨_,rfl⟩
 have hadd:NJ++(⟨#[120]⟩:ByteArray)=NX:=by rw[←hNX,←hNJ];rfl
 have hz1:NJ.size=3:=by rw[←hNJ];rfl
 have hz2:(⟨#[120]⟩:ByteArray).size=1:=rfl
 have hbx:Sb Jr.nx=.string NX:=by rw[←hNX]
 have hbj:Sb Jr.nj=.string NJ:=by rw[←hNJ]
 have hxm:Jr.nx.length≤maxLen:=by decide
 have hjm:Jr.nj.length≤maxLen:=by decide
 have kN:=ytf
 have kR:=fun {w:World}(h:DiskS w B S0 g (Jr.St o x) (-1))=>ysu Jr.nx h hxm
 obtain⟨c1,hc1,hrem⟩ :∃c1:Int,(c1=0∨c1=34)∧removeR (Jr.St o x) (-1) Jr.nx=(Jr.St o none,-1,c1):=by
  rw[Jr.yst (by omega)]
  cases x with
  | none=>exact⟨34,.inr rfl,rfl⟩
  | some p=>exact⟨0,.inl rfl,rfl⟩
 simp only[hrem]at kR
 have kD:=fun {w:World}{S:Nat→Prop}(h:DiskS w B S g (Jr.St o none) (-1))=>read_S Jr.nj h hjm
 rw[Jr.yrt o none (by omega),Jr.code_j o none (by omega)]at kD
 have kY:=fun {w:World}{S:Nat→Prop}(h:DiskS w B S g (Jr.St o none) (-1))=>ypj Jr.nj h hjm
 simp only[hbx]at kR
 simp only[hbj]at kN kD kY ⊢
 have KR2:=fun {w:World}(h:DiskS w B S0 g (Jr.St o x) (-1))=>yh (kR h)
 have KD:=fun {w:World}{S:Nat→Prop}(h:DiskS w B S g (Jr.St o none) (-1))=>yh (kD h)
 have KY:=fun {w:World}{S:Nat→Prop}(h:DiskS w B S g (Jr.St o none) (-1))=>yh (kY h)
 have KN:=fun w:World=>yh (kN w)
 have Hbj:=yh hbj
 have Hh:=yh h
 have Ho:=yh ho
 clear kR kD kY kN hNX hNJ hbx hbj hrem h ho hxm hjm
 have start :∀(w2 w1:World),Below w.heap.size w w2→(DiskS w1 B (Plus S0 w2 w1) g (Jr.St o none) (-1))→Chg S0 w2 w1→JS (w1.alloc (.cells #[.pointer (some ⟨g,0,none⟩),.string NJ,.int .i64 0,.int .i64 0,.bool false] 94)) B (Plus S0 w2 w1) g w1.heap.size (Jr.St o none) (-1) ⟨0,0,false⟩∧Chg S0 w (w1.alloc (.cells #[.pointer (some ⟨g,0,none⟩),.string NJ,.int .i64 0,.int .i64 0,.bool false] 94))∧w.heap.size≤w1.heap.size∧(∀k,Plus S0 w2 w1 k→S0 k∨w.heap.size≤k):=by
  intro w2 w1 hb hd hc
  have hbb:Below w1.heap.size w1 (w1.alloc (.cells #[.pointer (some ⟨g,0,none⟩),.string NJ,.int .i64 0,.int .i64 0,.bool false] 94)):=(Below.refl _ _).alloc (Nat.le_refl _) _
  have hs:=hb.size
  have hs2:=hc.size
  refine⟨⟨hd.below hbb,?_,fun hk=>?_⟩,?_,by omega,fun k hk=>?_⟩
  · have hr:=Row.new w1 94 [.pointer (some ⟨g,0,none⟩),.string NJ,.int .i64 0,.int .i64 0,.bool false]
    unfold JAt jcells
    rw[Hbj.out]
    exact hr
  · have:=(hd.1 _ hk).2
    omega
  · have e1:Chg S0 w w2:=⟨hb.os,hb.tape,hb.output,hb.size,fun i hi _=>hb.block i hi⟩
    have e2:Chg S0 w1 (w1.alloc (.cells #[.pointer (some ⟨g,0,none⟩),.string NJ,.int .i64 0,.int .i64 0,.bool false] 94)):=⟨hbb.os,hbb.tape,hbb.output,hbb.size,fun i hi _=>hbb.block i hi⟩
    exact(e1.trans hc (fun _ h=>.inl h)).trans e2 (fun _ h=>.inl h)
  · rcases hk with hk|hk
    · exact .inl hk
    · exact .inr (by omega)
 have Start:=yh start
 clear start
 have d1:(c1 != 0&&c1 != 34)=false:=by rcases hc1 with rfl|rfl <;> rfl
 cases o with
 | none=>
   rcases hc1 with rfl|rfl
   · clear d1
     go_enter Tryz.func27,Tryz.ntmps27
     go_wp2_with fail
     refine(KN _).out.mono ?_
     rintro e w2 ⟨rfl,hb2⟩
     have hd2:=Hh.out.below hb2
     have kR2:=(KR2 hd2).out
     have KR3:=yh kR2
     have Hb2:=yh hb2
     clear hb2 hd2 kR2
     go_wp2_with fail
     refine KR3.out.mono ?_
     rintro e w1 ⟨rfl,hd,hc⟩
     obtain⟨hJ,hC,hsz1,hP⟩:=Start.out w2 w1 Hb2.out hd hc
     have HJ:=yh hJ
     have HC:=yh hC
     have HP:=yh hP
     clear hd hc hJ hC hP
     go_wp2_with fail
     have hw1:w1.heap.size<(w1.alloc (.cells #[.pointer (some ⟨g,0,none⟩),.string NJ,.int .i64 0,.int .i64 0,.bool false] 94)).heap.size:=by simp
     generalize w1.alloc (.cells #[.pointer (some ⟨g,0,none⟩),.string NJ,.int .i64 0,.int .i64 0,.bool false] 94)=w3 at *
     refine(KD HJ.out.disk).out.mono ?_
     rintro e w4 ⟨rfl,hb4⟩
     have Hb4:=yh hb4
     clear hb4
     have hcode:(if (none:Option (List UInt8×Int)).isSome=true then (0:Int) else 34)=34:=rfl
     rw[hcode]
     go_wp2_with fail
     go_ret3
     have hb4:=Hb4.out
     have hs4:=hb4.size
     refine⟨w1.heap.size,.slice none 0 0,_,rfl,HJ.out.below hb4,hsz1,by omega,HP.out,HC.out.trans ⟨hb4.os,hb4.tape,hb4.output,hb4.size,fun i hi _=>hb4.block i hi⟩ (fun _ h=>.inl h),⟨none,0,rfl,fun hne=>absurd rfl hne⟩⟩
   · clear d1
     go_enter Tryz.func27,Tryz.ntmps27
     go_wp2_with fail
     refine(KN _).out.mono ?_
     rintro e w2 ⟨rfl,hb2⟩
     have hd2:=Hh.out.below hb2
     have kR2:=(KR2 hd2).out
     have KR3:=yh kR2
     have Hb2:=yh hb2
     clear hb2 hd2 kR2
     go_wp2_with fail
     refine KR3.out.mono ?_
     rintro e w1 ⟨rfl,hd,hc⟩
     obtain⟨hJ,hC,hsz1,hP⟩:=Start.out w2 w1 Hb2.out hd hc
     have HJ:=yh hJ
     have HC:=yh hC
     have HP:=yh hP
     clear hd hc hJ hC hP
     go_wp2_with fail
     have hw1:w1.heap.size<(w1.alloc (.cells #[.pointer (some ⟨g,0,none⟩),.string NJ,.int .i64 0,.int .i64 0,.bool false] 94)).heap.size:=by simp
     generalize w1.alloc (.cells #[.pointer (some ⟨g,0,none⟩),.string NJ,.int .i64 0,.int .i64 0,.bool false] 94)=w3 at *
     refine(KD HJ.out.disk).out.mono ?_
     rintro e w4 ⟨rfl,hb4⟩
     have Hb4:=yh hb4
     clear hb4
     have hcode:(if (none:Option (List UInt8×Int)).isSome=true then (0:Int) else 34)=34:=rfl
     rw[hcode]
     go_wp2_with fail
     go_ret3
     have hb4:=Hb4.out
     have hs4:=hb4.size
     refine⟨w1.heap.size,.slice none 0 0,_,rfl,HJ.out.below hb4,hsz1,by omega,HP.out,HC.out.trans ⟨hb4.os,hb4.tape,hb4.output,hb4.size,fun i hi _=>hb4.block i hi⟩ (fun _ h=>.inl h),⟨none,0,rfl,fun hne=>absurd rfl hne⟩⟩
 | some p=>
   obtain⟨s,sf⟩:=p
   obtain⟨sb,hsb⟩ :∃sb:ByteArray,(⟨s.toArray⟩:ByteArray)=sb:=⟨_,rfl⟩
   have hsl:sb.data.toList=s:=by rw[←hsb]
   have hss:S s=.string sb:=by rw[←hsb]
   have hsz:sb.size=s.length:=by rw[←hsb];rfl
   have hs1:s.length≤1048576:=Ho.out
   have kP:=fun w:World=>yly sb w (by omega)
   rw[hsl]at kP
   have hby:Jr.by_ (some (s,sf))=s:=rfl
   rw[hby]
   rw[hby]at KD
   have hps:=Jr.ys2 s
   rcases hpp:Jr.parse s with⟨L,n⟩
   rw[hpp]at hps
   simp only[hpp]at kP
   simp only[Option.isSome_some,if_true]at KD
   have KD2:=fun {w:World}{S:Nat→Prop}(h:DiskS w B S g (Jr.St (some (s,sf)) none) (-1))=>(KD h).out
   have hSb:Sb s=.string sb:=hss
   simp only[hSb]at KD2
   obtain⟨ht,hn,hr4⟩:=hps
   have hLl:(Jr.lays 0 L).length=n:=by rw[←ht,List.length_take];omega
   have hLn:L.length≤(Jr.lays 0 L).length:=yq4 0 L
   have KDD:=fun {w:World}{S:Nat→Prop}(h:DiskS w B S g (Jr.St (some (s,sf)) none) (-1))=>yh (KD2 h)
   have KP:=fun w:World=>yh (kP w)
   have Hr4:=yh hr4
   have Ht:=yh ht
   have HLl:=yh hLl
   clear KD KD2 kP hby hpp hsb hss hSb hsl ht hr4
   by_cases hlt:n<s.length
   · have d2:decide ((n:Int)<(sb.size:Int))=true:=by simp only[decide_eq_true_eq];omega
     have d2':decide (n<sb.size)=true:=by simp only[decide_eq_true_eq];omega
     have hrn:Jr.renewR (Jr.St (some (s,sf)) none) (-1) ⟨0,0,false⟩ L=(Jr.St (some (Jr.lays 0 L,((Jr.lays 0 L).length:Int))) none,-1,⟨L.length,L.length,false⟩,0):=by
      unfold Jr.renewR
      rw[if_neg (by simp),if_neg (fun hno=>hno Hr4.out),Jr.replace_up _ _ (by omega),if_neg (by simp)]
     have kW:=fun {w:World}{S:Nat→Prop}{q:Nat}{v:Value}(h:JS w B S g q (Jr.St (some (s,sf)) none) (-1) ⟨0,0,false⟩) (hv:InL w v L)=>yke h v L hv (by omega)
     rw[hrn]at kW
     have KW:=fun {w:World}{S:Nat→Prop}{q:Nat}{v:Value}(h:JS w B S g q (Jr.St (some (s,sf)) none) (-1) ⟨0,0,false⟩) (hv:InL w v L)=>yh (kW h hv)
     clear kW hrn
     rcases hc1 with rfl|rfl
     · clear d1
       go_enter Tryz.func27,Tryz.ntmps27
       go_wp2_with fail
       refine(KN _).out.mono ?_
       rintro e w2 ⟨rfl,hb2⟩
       have hd2:=Hh.out.below hb2
       have kR2:=(KR2 hd2).out
       have KR3:=yh kR2
       have Hb2:=yh hb2
       clear hb2 hd2 kR2
       go_wp2_with fail
       refine KR3.out.mono ?_
       rintro e w1 ⟨rfl,hd,hc⟩
       obtain⟨hJ,hC,hsz1,hP⟩:=Start.out w2 w1 Hb2.out hd hc
       have HJ:=yh hJ
       have HC:=yh hC
       have HP:=yh hP
       clear hd hc hJ hC hP
       go_wp2_with fail
       have hw1:w1.heap.size<(w1.alloc (.cells #[.pointer (some ⟨g,0,none⟩),.string NJ,.int .i64 0,.int .i64 0,.bool false] 94)).heap.size:=by simp
       generalize w1.alloc (.cells #[.pointer (some ⟨g,0,none⟩),.string NJ,.int .i64 0,.int .i64 0,.bool false] 94)=w3 at *
       refine(KDD HJ.out.disk).out.mono ?_
       rintro e w4 ⟨rfl,hb4⟩
       have Hb4:=yh hb4
       clear hb4
       go_wp2_with fail
       refine(KP _).out.mono ?_
       rintro e w5 ⟨⟨v,rfl,hl⟩,hb5⟩
       have hb35:=Hb4.out.trans (hb5.mono Hb4.out.size)
       have hJ5:=HJ.out.below hb35
       have hs4:=Hb4.out.size
       have hs5:=hb5.size
       have hla:LstA w5 w.heap.size (Plus S0 w2 w1) w1.heap.size v L:=by
        obtain⟨A,c,hv,hr⟩:=hl
        refine⟨A,c,hv,fun hne=>?_⟩
        obtain⟨b,e1,e2,e3,e4⟩:=hr hne
        refine⟨b,e1,by omega,e3,fun hk=>?_,by omega,e4⟩
        have:=(HJ.out.disk.1 b hk).2
        omega
       have hC5:Chg S0 w w5:=HC.out.trans ⟨hb35.os,hb35.tape,hb35.output,hb35.size,fun i hi _=>hb35.block i hi⟩ (fun _ h=>.inl h)
       have hin:=hla.inL
       obtain⟨A,c,rfl,_⟩:=id hl
       have HLa:=yh hla
       have HJ5:=yh hJ5
       have HC5:=yh hC5
       have Hin:=yh hin
       clear hl hb5 hb35 hJ5 hla hC5 hin
       go_wp2_with fail
       refine(KW HJ5.out Hin.out).out.mono ?_
       rintro e w6 ⟨rfl,t6⟩
       obtain⟨S6,hJ6,hP6,hC6⟩:=t6
       have hla6:=HLa.out.kept hP6 hC6
       have hC7:Chg S0 w w6:=ykq HC5.out hC6 HP.out hsz1
       have hP7 :∀k,S6 k→S0 k∨w.heap.size≤k:=fun k hk=>by
        rcases hP6 k hk with h|h
        · exact HP.out k h
        · have:=HC5.out.size;exact .inr (by omega)
       have z2:=hJ6.row.box.2.2.1
       have z3:=hJ6.row.box.2.2.2.1
       have zf2:=Row.free hJ6.row 2
       have zf3:=Row.free hJ6.row 3
       have zr:=Row.set hJ6.row 2 (.int .i64 (L.length:Int)) (by simp[jcells])
       have zr2:=Row.set zr 3 (.int .i64 (L.length:Int)) (by simp[jcells])
       have y3:=Row.cell zr 3 (by simp[jcells])
       have yf3:=Row.free zr 3
       simp only[jcells,List.set,List.getElem_cons_succ,List.getElem_cons_zero]at y3
       have t9:=hJ6.rowTo (j':=⟨L.length,L.length,false⟩) (World.grownBy.trans (yaq w6 w1.heap.size 2 (.int .i64 (L.length:Int))) (yaq _ w1.heap.size 3 (.int .i64 (L.length:Int)))) (by unfold JAt;unfold jcells at zr2 ⊢;simpa using zr2)
       have H9:=yh t9
       have HLa6:=yh hla6
       have HC7:=yh hC7
       have HP7:=yh hP7
       clear hJ6 hP6 hC6 zr zr2 t9 hla6 hC7 hP7
       go_wp2_with fail
       go_ret3
       obtain⟨S9,hJ9,hP9,hC9⟩:=H9.out
       have hs7:=HC7.out.size
       refine⟨w1.heap.size,_,S9,rfl,hJ9,hsz1,Row.lt hJ9.row,fun k hk=>?_,ykq HC7.out hC9 HP7.out hsz1,HLa6.out.kept hP9 hC9⟩
       rcases hP9 k hk with h|h
       · exact HP7.out k h
       · exact .inr (by omega)
     · clear d1
       go_enter Tryz.func27,Tryz.ntmps27
       go_wp2_with fail
       refine(KN _).out.mono ?_
       rintro e w2 ⟨rfl,hb2⟩
       have hd2:=Hh.out.below hb2
       have kR2:=(KR2 hd2).out
       have KR3:=yh kR2
       have Hb2:=yh hb2
       clear hb2 hd2 kR2
       go_wp2_with fail
       refine KR3.out.mono ?_
       rintro e w1 ⟨rfl,hd,hc⟩
       obtain⟨hJ,hC,hsz1,hP⟩:=Start.out w2 w1 Hb2.out hd hc
       have HJ:=yh hJ
       have HC:=yh hC
       have HP:=yh hP
       clear hd hc hJ hC hP
       go_wp2_with fail
       have hw1:w1.heap.size<(w1.alloc (.cells #[.pointer (some ⟨g,0,none⟩),.string NJ,.int .i64 0,.int .i64 0,.bool false] 94)).heap.size:=by simp
       generalize w1.alloc (.cells #[.pointer (some ⟨g,0,none⟩),.string NJ,.int .i64 0,.int .i64 0,.bool false] 94)=w3 at *
       refine(KDD HJ.out.disk).out.mono ?_
       rintro e w4 ⟨rfl,hb4⟩
       have Hb4:=yh hb4
       clear hb4
       go_wp2_with fail
       refine(KP _).out.mono ?_
       rintro e w5 ⟨⟨v,rfl,hl⟩,hb5⟩
       have hb35:=Hb4.out.trans (hb5.mono Hb4.out.size)
       have hJ5:=HJ.out.below hb35
       have hs4:=Hb4.out.size
       have hs5:=hb5.size
       have hla:LstA w5 w.heap.size (Plus S0 w2 w1) w1.heap.size v L:=by
        obtain⟨A,c,hv,hr⟩:=hl
        refine⟨A,c,hv,fun hne=>?_⟩
        obtain⟨b,e1,e2,e3,e4⟩:=hr hne
        refine⟨b,e1,by omega,e3,fun hk=>?_,by omega,e4⟩
        have:=(HJ.out.disk.1 b hk).2
        omega
       have hC5:Chg S0 w w5:=HC.out.trans ⟨hb35.os,hb35.tape,hb35.output,hb35.size,fun i hi _=>hb35.block i hi⟩ (fun _ h=>.inl h)
       have hin:=hla.inL
       obtain⟨A,c,rfl,_⟩:=id hl
       have HLa:=yh hla
       have HJ5:=yh hJ5
       have HC5:=yh hC5
       have Hin:=yh hin
       clear hl hb5 hb35 hJ5 hla hC5 hin
       go_wp2_with fail
       refine(KW HJ5.out Hin.out).out.mono ?_
       rintro e w6 ⟨rfl,t6⟩
       obtain⟨S6,hJ6,hP6,hC6⟩:=t6
       have hla6:=HLa.out.kept hP6 hC6
       have hC7:Chg S0 w w6:=ykq HC5.out hC6 HP.out hsz1
       have hP7 :∀k,S6 k→S0 k∨w.heap.size≤k:=fun k hk=>by
        rcases hP6 k hk with h|h
        · exact HP.out k h
        · have:=HC5.out.size;exact .inr (by omega)
       have z2:=hJ6.row.box.2.2.1
       have z3:=hJ6.row.box.2.2.2.1
       have zf2:=Row.free hJ6.row 2
       have zf3:=Row.free hJ6.row 3
       have zr:=Row.set hJ6.row 2 (.int .i64 (L.length:Int)) (by simp[jcells])
       have zr2:=Row.set zr 3 (.int .i64 (L.length:Int)) (by simp[jcells])
       have y3:=Row.cell zr 3 (by simp[jcells])
       have yf3:=Row.free zr 3
       simp only[jcells,List.set,List.getElem_cons_succ,List.getElem_cons_zero]at y3
       have t9:=hJ6.rowTo (j':=⟨L.length,L.length,false⟩) (World.grownBy.trans (yaq w6 w1.heap.size 2 (.int .i64 (L.length:Int))) (yaq _ w1.heap.size 3 (.int .i64 (L.length:Int)))) (by unfold JAt;unfold jcells at zr2 ⊢;simpa using zr2)
       have H9:=yh t9
       have HLa6:=yh hla6
       have HC7:=yh hC7
       have HP7:=yh hP7
       clear hJ6 hP6 hC6 zr zr2 t9 hla6 hC7 hP7
       go_wp2_with fail
       go_ret3
       obtain⟨S9,hJ9,hP9,hC9⟩:=H9.out
       have hs7:=HC7.out.size
       refine⟨w1.heap.size,_,S9,rfl,hJ9,hsz1,Row.lt hJ9.row,fun k hk=>?_,ykq HC7.out hC9 HP7.out hsz1,HLa6.out.kept hP9 hC9⟩
       rcases hP9 k hk with h|h
       · exact HP7.out k h
       · exact .inr (by omega)
   · have d2:decide ((n:Int)<(sb.size:Int))=false:=by simp only[decide_eq_false_iff_not];omega
     have d2':decide (n<sb.size)=false:=by simp only[decide_eq_false_iff_not];omega
     have hsL:s=Jr.lays 0 L:=by rw[←Ht.out,List.take_of_length_le (by omega)]
     have hsy:syncR (Jr.St (some (s,sf)) none) (-1) Jr.nj=(Jr.St (some (Jr.lays 0 L,((Jr.lays 0 L).length:Int))) none,-1,0):=by
      rw[Jr.sync_j (by omega)]
      simp only
      rw[←hsL];rfl
     have KW:=fun {w:World}{S:Nat→Prop}(h:DiskS w B S g (Jr.St (some (s,sf)) none) (-1))=>(KY h).out
     rw[hsy]at KW
     have KWW:=fun {w:World}{S:Nat→Prop}(h:DiskS w B S g (Jr.St (some (s,sf)) none) (-1))=>yh (KW h)
     clear KW hsy hsL
     rcases hc1 with rfl|rfl
     · clear d1
       go_enter Tryz.func27,Tryz.ntmps27
       go_wp2_with fail
       refine(KN _).out.mono ?_
       rintro e w2 ⟨rfl,hb2⟩
       have hd2:=Hh.out.below hb2
       have kR2:=(KR2 hd2).out
       have KR3:=yh kR2
       have Hb2:=yh hb2
       clear hb2 hd2 kR2
       go_wp2_with fail
       refine KR3.out.mono ?_
       rintro e w1 ⟨rfl,hd,hc⟩
       obtain⟨hJ,hC,hsz1,hP⟩:=Start.out w2 w1 Hb2.out hd hc
       have HJ:=yh hJ
       have HC:=yh hC
       have HP:=yh hP
       clear hd hc hJ hC hP
       go_wp2_with fail
       have hw1:w1.heap.size<(w1.alloc (.cells #[.pointer (some ⟨g,0,none⟩),.string NJ,.int .i64 0,.int .i64 0,.bool false] 94)).heap.size:=by simp
       generalize w1.alloc (.cells #[.pointer (some ⟨g,0,none⟩),.string NJ,.int .i64 0,.int .i64 0,.bool false] 94)=w3 at *
       refine(KDD HJ.out.disk).out.mono ?_
       rintro e w4 ⟨rfl,hb4⟩
       have Hb4:=yh hb4
       clear hb4
       go_wp2_with fail
       refine(KP _).out.mono ?_
       rintro e w5 ⟨⟨v,rfl,hl⟩,hb5⟩
       have hb35:=Hb4.out.trans (hb5.mono Hb4.out.size)
       have hJ5:=HJ.out.below hb35
       have hs4:=Hb4.out.size
       have hs5:=hb5.size
       have hla:LstA w5 w.heap.size (Plus S0 w2 w1) w1.heap.size v L:=by
        obtain⟨A,c,hv,hr⟩:=hl
        refine⟨A,c,hv,fun hne=>?_⟩
        obtain⟨b,e1,e2,e3,e4⟩:=hr hne
        refine⟨b,e1,by omega,e3,fun hk=>?_,by omega,e4⟩
        have:=(HJ.out.disk.1 b hk).2
        omega
       have hC5:Chg S0 w w5:=HC.out.trans ⟨hb35.os,hb35.tape,hb35.output,hb35.size,fun i hi _=>hb35.block i hi⟩ (fun _ h=>.inl h)
       have hin:=hla.inL
       obtain⟨A,c,rfl,_⟩:=id hl
       have HLa:=yh hla
       have HJ5:=yh hJ5
       have HC5:=yh hC5
       have Hin:=yh hin
       clear hl hb5 hb35 hJ5 hla hC5 hin
       go_wp2_with fail
       refine(KWW HJ5.out.disk).out.mono ?_
       rintro e w6 ⟨rfl,hd6,hc6⟩
       have t6:=HJ5.out.diskTo hd6 hc6
       clear hd6 hc6
       obtain⟨S6,hJ6,hP6,hC6⟩:=t6
       have hla6:=HLa.out.kept hP6 hC6
       have hC7:Chg S0 w w6:=ykq HC5.out hC6 HP.out hsz1
       have hP7 :∀k,S6 k→S0 k∨w.heap.size≤k:=fun k hk=>by
        rcases hP6 k hk with h|h
        · exact HP.out k h
        · have:=HC5.out.size;exact .inr (by omega)
       have z2:=hJ6.row.box.2.2.1
       have z3:=hJ6.row.box.2.2.2.1
       have zf2:=Row.free hJ6.row 2
       have zf3:=Row.free hJ6.row 3
       have zr:=Row.set hJ6.row 2 (.int .i64 (L.length:Int)) (by simp[jcells])
       have zr2:=Row.set zr 3 (.int .i64 (L.length:Int)) (by simp[jcells])
       have y3:=Row.cell zr 3 (by simp[jcells])
       have yf3:=Row.free zr 3
       simp only[jcells,List.set,List.getElem_cons_succ,List.getElem_cons_zero]at y3
       have t9:=hJ6.rowTo (j':=⟨L.length,L.length,false⟩) (World.grownBy.trans (yaq w6 w1.heap.size 2 (.int .i64 (L.length:Int))) (yaq _ w1.heap.size 3 (.int .i64 (L.length:Int)))) (by unfold JAt;unfold jcells at zr2 ⊢;simpa using zr2)
       have H9:=yh t9
       have HLa6:=yh hla6
       have HC7:=yh hC7
       have HP7:=yh hP7
       clear hJ6 hP6 hC6 zr zr2 t9 hla6 hC7 hP7
       go_wp2_with fail
       go_ret3
       obtain⟨S9,hJ9,hP9,hC9⟩:=H9.out
       have hs7:=HC7.out.size
       refine⟨w1.heap.size,_,S9,rfl,hJ9,hsz1,Row.lt hJ9.row,fun k hk=>?_,ykq HC7.out hC9 HP7.out hsz1,HLa6.out.kept hP9 hC9⟩
       rcases hP9 k hk with h|h
       · exact HP7.out k h
       · exact .inr (by omega)
     · clear d1
       go_enter Tryz.func27,Tryz.ntmps27
       go_wp2_with fail
       refine(KN _).out.mono ?_
       rintro e w2 ⟨rfl,hb2⟩
       have hd2:=Hh.out.below hb2
       have kR2:=(KR2 hd2).out
       have KR3:=yh kR2
       have Hb2:=yh hb2
       clear hb2 hd2 kR2
       go_wp2_with fail
       refine KR3.out.mono ?_
       rintro e w1 ⟨rfl,hd,hc⟩
       obtain⟨hJ,hC,hsz1,hP⟩:=Start.out w2 w1 Hb2.out hd hc
       have HJ:=yh hJ
       have HC:=yh hC
       have HP:=yh hP
       clear hd hc hJ hC hP
       go_wp2_with fail
       have hw1:w1.heap.size<(w1.alloc (.cells #[.pointer (some ⟨g,0,none⟩),.string NJ,.int .i64 0,.int .i64 0,.bool false] 94)).heap.size:=by simp
       generalize w1.alloc (.cells #[.pointer (some ⟨g,0,none⟩),.string NJ,.int .i64 0,.int .i64 0,.bool false] 94)=w3 at *
       refine(KDD HJ.out.disk).out.mono ?_
       rintro e w4 ⟨rfl,hb4⟩
       have Hb4:=yh hb4
       clear hb4
       go_wp2_with fail
       refine(KP _).out.mono ?_
       rintro e w5 ⟨⟨v,rfl,hl⟩,hb5⟩
       have hb35:=Hb4.out.trans (hb5.mono Hb4.out.size)
       have hJ5:=HJ.out.below hb35
       have hs4:=Hb4.out.size
       have hs5:=hb5.size
       have hla:LstA w5 w.heap.size (Plus S0 w2 w1) w1.heap.size v L:=by
        obtain⟨A,c,hv,hr⟩:=hl
        refine⟨A,c,hv,fun hne=>?_⟩
        obtain⟨b,e1,e2,e3,e4⟩:=hr hne
        refine⟨b,e1,by omega,e3,fun hk=>?_,by omega,e4⟩
        have:=(HJ.out.disk.1 b hk).2
        omega
       have hC5:Chg S0 w w5:=HC.out.trans ⟨hb35.os,hb35.tape,hb35.output,hb35.size,fun i hi _=>hb35.block i hi⟩ (fun _ h=>.inl h)
       have hin:=hla.inL
       obtain⟨A,c,rfl,_⟩:=id hl
       have HLa:=yh hla
       have HJ5:=yh hJ5
       have HC5:=yh hC5
       have Hin:=yh hin
       clear hl hb5 hb35 hJ5 hla hC5 hin
       go_wp2_with fail
       refine(KWW HJ5.out.disk).out.mono ?_
       rintro e w6 ⟨rfl,hd6,hc6⟩
       have t6:=HJ5.out.diskTo hd6 hc6
       clear hd6 hc6
       obtain⟨S6,hJ6,hP6,hC6⟩:=t6
       have hla6:=HLa.out.kept hP6 hC6
       have hC7:Chg S0 w w6:=ykq HC5.out hC6 HP.out hsz1
       have hP7 :∀k,S6 k→S0 k∨w.heap.size≤k:=fun k hk=>by
        rcases hP6 k hk with h|h
        · exact HP.out k h
        · have:=HC5.out.size;exact .inr (by omega)
       have z2:=hJ6.row.box.2.2.1
       have z3:=hJ6.row.box.2.2.2.1
       have zf2:=Row.free hJ6.row 2
       have zf3:=Row.free hJ6.row 3
       have zr:=Row.set hJ6.row 2 (.int .i64 (L.length:Int)) (by simp[jcells])
       have zr2:=Row.set zr 3 (.int .i64 (L.length:Int)) (by simp[jcells])
       have y3:=Row.cell zr 3 (by simp[jcells])
       have yf3:=Row.free zr 3
       simp only[jcells,List.set,List.getElem_cons_succ,List.getElem_cons_zero]at y3
       have t9:=hJ6.rowTo (j':=⟨L.length,L.length,false⟩) (World.grownBy.trans (yaq w6 w1.heap.size 2 (.int .i64 (L.length:Int))) (yaq _ w1.heap.size 3 (.int .i64 (L.length:Int)))) (by unfold JAt;unfold jcells at zr2 ⊢;simpa using zr2)
       have H9:=yh t9
       have HLa6:=yh hla6
       have HC7:=yh hC7
       have HP7:=yh hP7
       clear hJ6 hP6 hC6 zr zr2 t9 hla6 hC7 hP7
       go_wp2_with fail
       go_ret3
       obtain⟨S9,hJ9,hP9,hC9⟩:=H9.out
       have hs7:=HC7.out.size
       refine⟨w1.heap.size,_,S9,rfl,hJ9,hsz1,Row.lt hJ9.row,fun k hk=>?_,ykq HC7.out hC9 HP7.out hsz1,HLa6.out.kept hP9 hC9⟩
       rcases hP9 k hk with h|h
       · exact HP7.out k h
       · exact .inr (by omega)
end
end Go.Proofs.YtalfnadejpmjnaaGreatDoor.Jn
