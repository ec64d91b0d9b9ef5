/- A part. -/
import Derived.Test.YtalfnadejpmjnaaGreatDoorNSlA
set_option linter.unusedVariables false
set_option linter.unusedSimpArgs false
set_option maxRecDepth 100000
set_option maxHeartbeats 25600000
namespace Go.Proofs.YtalfnadejpmjnaaGreatDoor
section
open Go.RowKit
namespace It
theorem yao (i:It):i.cells.length=4:=rfl
theorem yan (i:It) :∀v∈i.cells,v.oneCell'=true:=by
 intro v hv
 simp[cells]at hv
 rcases hv with rfl|rfl|rfl|rfl <;> rfl
end It
end
section
open Go.RowKit
namespace Bd
theorem yao {b:Bd}(h:b.tag.length=32):b.cells.length=36:=by
 unfold cells
 simp only[List.length_append,Tx.yap _ h,List.length_cons,List.length_nil]
theorem yan {b:Bd}(h:b.tag.length=32) :∀v∈b.cells,v.oneCell'=true:=by
 intro v hv
 unfold cells at hv
 rcases List.mem_append.1 hv with h1|h1
 · simp at h1
   rcases h1 with rfl|rfl|rfl|rfl <;> rfl
 · exact ybw _ h v h1
end Bd
end
section
open Go.RowKit
namespace Bd
def pairV (x:Bd×Int):Value:=.tuple #[.agg x.1.cells.toArray,.int .i64 x.2]
end Bd
end
section
open Go.RowKit
namespace Bd
end Bd
end
section
open Go.RowKit
def PartsAt (w:World)(B:Nat)(A:Option Addr)(P:List Pt):Prop:=
 P≠[]→∃b off,A=some ⟨b,off,none⟩∧b<B∧∀i (h:i<P.length),w.cell? ⟨b,off+i*2,none⟩=some (.bool (P[i]).1)∧w.cell? ⟨b,off+i*2+1,none⟩=some (S (P[i]).2)
theorem PartsAt.grown {w w':World}{B:Nat}{A:Option Addr}{P:List Pt}{r:Option Nat}(h:PartsAt w B A P)(hg:w.grownBy w' r)(hr :∀k,r=some k→B≤k):PartsAt w' B A P:=fun hne=>by
 obtain⟨b,off,h1,h2,h3⟩:=h hne
 have hne:some b≠r:=fun e=>by have:=hr b e.symm;omega
 exact⟨b,off,h1,h2,fun i hi=>⟨hg.cell (h3 i hi).1 hne,hg.cell (h3 i hi).2 hne⟩⟩
theorem PartsAt.mono {w:World}{B B':Nat}{A:Option Addr}{P:List Pt}(h:PartsAt w B A P)(hB:B≤B'):PartsAt w B' A P:=fun hne=>by
 obtain⟨b,off,h1,h2,h3⟩:=h hne
 exact⟨b,off,h1,by omega,h3⟩
def Bt.cells (b:Bt)(A:Option Addr)(cap:Nat):List Value:=[.int .i64 b.seq,.int .i64 b.first,.int .i64 b.before,.slice A b.parts.length cap]
end
section
open Go.RowKit
end
section
open Go.RowKit
theorem yk1 (n m:Int)(w:World):
 Calls Tryz.prog 98 #[.int .i64 n,.int .i64 m] w fun e w'=>e=.returned (.bool (decide (0≤n)&&decide (n≤m)))∧w=w':=by
 by_cases h:0≤n
 · have hd:decide (0≤n)=true:=by simpa using h
   have Hd:=yh hd
   clear hd
   go_enter Tryz.func98,Tryz.ntmps98
   go_wp2
   go_ret
   exact⟨by rw[Hd.out];rfl,rfl⟩
 · have hd:decide (0≤n)=false:=by simpa using h
   have Hd:=yh hd
   clear hd
   go_enter Tryz.func98,Tryz.ntmps98
   go_wp2
   go_ret
   exact⟨by rw[Hd.out];rfl,rfl⟩
theorem ybq (n m:Int)(b:Bool)(h:(decide (0≤n)&&decide (n≤m))=b)(w:World):
 Calls Tryz.prog 98 #[.int .i64 n,.int .i64 m] w fun e w'=>e=.returned (.bool b)∧w=w':=by
 have:=yk1 n m w
 rw[h]at this
 exact this
theorem yde (n:Int)(w:World)(h0:0≤n)(h1:n≤9223372036854775807):
 Calls Tryz.prog 100 #[.int .i64 n] w fun e w'=>e=.returned (S (Oct.num n.toNat))∧Below w.heap.size w w':=by
 have RN:Hid (∀W,Calls Tryz.prog 135 #[.int .i64 n] W fun e w'=>e=.returned (.tuple #[S (Oct.num n.toNat),.int .i64 0])∧Below W.heap.size W w'):=fun W=>by
  have:=ycu n W h1
  unfold Oct.numE at this
  rw[if_neg (by omega)]at this
  exact this
 go_enter Tryz.func100,Tryz.ntmps100
 go_wp2_with fail
 refine(RN.out _).mono ?_
 rintro _ w1 ⟨rfl,hb1⟩
 have Hb1:=yh hb1
 clear hb1
 go_wp2_with fail
 go_ret
 exact⟨rfl,Hb1.out⟩
theorem yqu (A:Option Addr)(c:Nat)(L:List (List UInt8))(w:World)(hr:Texts w w.heap.size A L):
 Calls Tryz.prog 99 #[.slice A L.length c] w fun e w'=>e=.returned (.tuple #[S (Oct.listE L).1,.int .i64 (Oct.listE L).2])∧Below w.heap.size w w':=by
 have RL:Hid (Calls Tryz.prog 133 #[.slice A L.length c] w fun e w'=>e=.returned (.tuple #[S (Oct.listE L).1,.int .i64 (Oct.listE L).2])∧Below w.heap.size w w'):=ygn A c L w hr
 generalize L.length=m at *
 clear hr
 go_enter Tryz.func99,Tryz.ntmps99
 go_wp2_with fail
 refine RL.out.mono ?_
 rintro _ w1 ⟨rfl,hb1⟩
 have Hb1:=yh hb1
 clear hb1
 go_wp2_with fail
 go_ret2
 exact⟨rfl,Hb1.out⟩
theorem ykc (L:List (List UInt8)){W:World}{g:Nat}{xs:List Value}(h:Row W g 9 xs)(hx:xs=L.map S)(n c:Nat)(hn:n=L.length):
 Calls Tryz.prog 99 #[.slice (some ⟨g,0,none⟩) n c] W fun e w'=>e=.returned (.tuple #[S (Oct.listE L).1,.int .i64 (Oct.listE L).2])∧Below W.heap.size W w':=by
 subst hn hx
 refine yqu _ c L W fun _=>⟨g,0,rfl,h.lt,fun i hi=>?_⟩
 rw[Nat.zero_add,h.cell i (by simpa using hi)]
 simp
end
section
open Go.RowKit
namespace Bd
end Bd
end
section
open Go.RowKit
theorem yaf:(Tryz.prog.info? 64).map (·.size)=some 68:=by kernel_rfl
namespace Rp
theorem yao {r:Rp}(h:r.prev.length=32)(h2:r.hash.length=32):r.cells.length=68:=by
 unfold cells
 simp only[List.length_append,Tx.yap _ h,Tx.yap _ h2,List.length_cons,List.length_nil]
theorem yan {r:Rp}(h:r.prev.length=32)(h2:r.hash.length=32) :∀v∈r.cells,v.oneCell'=true:=by
 intro v hv
 unfold cells at hv
 rcases List.mem_append.1 hv with h1|h1
 · simp at h1
   rcases h1 with rfl|rfl|rfl|rfl <;> rfl
 · rcases List.mem_append.1 h1 with h3|h3
   · exact ybw _ h v h3
   · exact ybw _ h2 v h3
theorem yif {r:Rp}(h:r.prev.length=32):(r.cells.drop 4).take 32=(bRow r.prev).toList:=by
 show (((bRow r.prev).toList++(bRow r.hash).toList)).take 32=_
 rw[List.take_append_of_le_length (by rw[Tx.yap _ h];omega),List.take_of_length_le (by rw[Tx.yap _ h];omega)]
theorem yig {r:Rp}(h:r.prev.length=32):r.cells.drop 36=(bRow r.hash).toList:=by
 have e:r.cells.drop 36=((bRow r.prev).toList++(bRow r.hash).toList).drop 32:=rfl
 rw[e,List.drop_left' (Tx.yap _ h)]
theorem ymo {r:Rp}(h:r.prev.length=32)(h2:r.hash.length=32)(R:List UInt8)(hR:R.length=32):r.cells.take 36++((bRow R).toList++r.cells.drop (36+(bRow R).toList.length))=Rp.cells { r with hash:=R }:=by
 rw[List.drop_of_length_le (by rw[yao h h2,Tx.yap R hR];omega),List.append_nil]
 have e:r.cells.take 36=[Value.int .i64 r.index,.int .i64 r.kind,.int .i64 r.time,.string r.body]++(bRow r.prev).toList:=by
  unfold cells
  rw[List.take_append,List.take_of_length_le (by simp),show ([Value.int .i64 r.index,.int .i64 r.kind,.int .i64 r.time,.string r.body]:List Value).length=4 from rfl,List.take_append_of_le_length (by rw[Tx.yap _ h];omega),List.take_of_length_le (by rw[Tx.yap _ h];omega)]
 rw[e,List.append_assoc]
 rfl
def pairV (x:Rp×Int):Value:=.tuple #[.agg x.1.cells.toArray,.int .i64 x.2]
end Rp
theorem Rp.yaz:Tryz.prog.built 64 []=some Rp.zero.cells.toArray:=by kernel_rfl
theorem ydf {W:World}{g:Nat}{T:TypeId}{r:Rp}(h:Row W g T r.cells):W.cell? ⟨g,0,none⟩=some (.int .i64 r.index)∧W.cell? ⟨g,1,none⟩=some (.int .i64 r.kind)∧W.cell? ⟨g,2,none⟩=some (.int .i64 r.time)∧W.cell? ⟨g,3,none⟩=some (.string r.body):=
 ⟨h.cell 0 (by simp[Rp.cells]),h.cell 1 (by simp[Rp.cells]),h.cell 2 (by simp[Rp.cells]),h.cell 3 (by simp[Rp.cells])⟩
theorem yla {W:World}{g:Nat}{T:TypeId}{r:Rp}(hp:r.prev.length=32)(h:Row W g T r.cells):W.rangeAt g 4 (bRow r.prev).toList:=by
 intro j v hv
 have hj:j<32:=by have:=(List.getElem?_eq_some_iff.1 hv).1;rw[Tx.yap _ hp]at this;exact this
 have e:r.cells[4+j]? = some v:=by rw[←hv,←Rp.yif hp,List.getElem?_take_of_lt hj,List.getElem?_drop]
 obtain⟨hlt,he⟩:=List.getElem?_eq_some_iff.1 e
 rw[h.cell _ hlt,he]
theorem ypt {W:World}{g:Nat}{T:TypeId}{r:Rp}(hp:r.prev.length=32)(h:Row W g T r.cells):W.rangeAt g 36 (bRow r.hash).toList:=by
 intro j v hv
 have e:r.cells[36+j]? = some v:=by rw[←hv,←Rp.yig hp,List.getElem?_drop]
 obtain⟨hlt,he⟩:=List.getElem?_eq_some_iff.1 e
 rw[h.cell _ hlt,he]
theorem yq2 (r:Rp)(w:World)(k1:(r.kind == 1)=true)(h0:Tx.num r.index=false):
 Calls Tryz.prog 112 #[.agg r.cells.toArray] w fun e w'=>e=.returned (.bool false)∧Below w.heap.size w w':=by
 obtain⟨c0,c1,c2,c3⟩:=ydf (Row.new w 64 r.cells)
 have N0:Hid (∀W,Calls Tryz.prog 150 #[.int .i64 r.index] W fun e w'=>e=.returned (.bool false)∧W=w'):=fun W=>by have:=ybe r.index W;rw[h0]at this;exact this
 clear h0
 generalize r.cells=C at *
 go_enter Tryz.func112,Tryz.ntmps112
 go_wp2_with fail
 refine(N0.out _).mono ?_
 rintro _ w1 ⟨rfl,rfl⟩
 go_wp2_with fail
 go_ret
 exact⟨by first|rfl|(simp;done)|(simp;omega),(Below.refl w.heap.size w).alloc (Nat.le_refl _) _⟩
theorem yq1 (r:Rp)(w:World)(k1:(r.kind == 1)=true)(h0:Tx.num r.index=true)(h1:Tx.num r.time=false):
 Calls Tryz.prog 112 #[.agg r.cells.toArray] w fun e w'=>e=.returned (.bool false)∧Below w.heap.size w w':=by
 obtain⟨c0,c1,c2,c3⟩:=ydf (Row.new w 64 r.cells)
 have N0:Hid (∀W,Calls Tryz.prog 150 #[.int .i64 r.index] W fun e w'=>e=.returned (.bool true)∧W=w'):=fun W=>by have:=ybe r.index W;rw[h0]at this;exact this
 have N1:Hid (∀W,Calls Tryz.prog 150 #[.int .i64 r.time] W fun e w'=>e=.returned (.bool false)∧W=w'):=fun W=>by have:=ybe r.time W;rw[h1]at this;exact this
 clear h0 h1
 generalize r.cells=C at *
 go_enter Tryz.func112,Tryz.ntmps112
 go_wp2_with fail
 refine(N0.out _).mono ?_
 rintro _ w1 ⟨rfl,rfl⟩
 go_wp2_with fail
 refine(N1.out _).mono ?_
 rintro _ w1 ⟨rfl,rfl⟩
 go_wp2_with fail
 go_ret
 exact⟨by first|rfl|(simp;done)|(simp;omega),(Below.refl w.heap.size w).alloc (Nat.le_refl _) _⟩
theorem yq0 (r:Rp)(w:World)(k1:(r.kind == 1)=true)(h0:Tx.num r.index=true)(h1:Tx.num r.time=true)(h2 :¬(r.body.size:Int)≤656):
 Calls Tryz.prog 112 #[.agg r.cells.toArray] w fun e w'=>e=.returned (.bool false)∧Below w.heap.size w w':=by
 obtain⟨c0,c1,c2,c3⟩:=ydf (Row.new w 64 r.cells)
 have N0:Hid (∀W,Calls Tryz.prog 150 #[.int .i64 r.index] W fun e w'=>e=.returned (.bool true)∧W=w'):=fun W=>by have:=ybe r.index W;rw[h0]at this;exact this
 have N1:Hid (∀W,Calls Tryz.prog 150 #[.int .i64 r.time] W fun e w'=>e=.returned (.bool true)∧W=w'):=fun W=>by have:=ybe r.time W;rw[h1]at this;exact this
 clear h0 h1
 generalize r.cells=C at *
 go_enter Tryz.func112,Tryz.ntmps112
 go_wp2_with fail
 refine(N0.out _).mono ?_
 rintro _ w1 ⟨rfl,rfl⟩
 go_wp2_with fail
 refine(N1.out _).mono ?_
 rintro _ w1 ⟨rfl,rfl⟩
 go_wp2_with fail
 go_ret
 exact⟨by first|rfl|(simp;done)|(simp;omega),(Below.refl w.heap.size w).alloc (Nat.le_refl _) _⟩
theorem yqz (r:Rp)(w:World)(k1:(r.kind == 1)=true)(h0:Tx.num r.index=true)(h1:Tx.num r.time=true)(h2:(r.body.size:Int)≤656):
 Calls Tryz.prog 112 #[.agg r.cells.toArray] w fun e w'=>e=.returned (.bool true)∧Below w.heap.size w w':=by
 obtain⟨c0,c1,c2,c3⟩:=ydf (Row.new w 64 r.cells)
 have N0:Hid (∀W,Calls Tryz.prog 150 #[.int .i64 r.index] W fun e w'=>e=.returned (.bool true)∧W=w'):=fun W=>by have:=ybe r.index W;rw[h0]at this;exact this
 have N1:Hid (∀W,Calls Tryz.prog 150 #[.int .i64 r.time] W fun e w'=>e=.returned (.bool true)∧W=w'):=fun W=>by have:=ybe r.time W;rw[h1]at this;exact this
 clear h0 h1
 generalize r.cells=C at *
 go_enter Tryz.func112,Tryz.ntmps112
 go_wp2_with fail
 refine(N0.out _).mono ?_
 rintro _ w1 ⟨rfl,rfl⟩
 go_wp2_with fail
 refine(N1.out _).mono ?_
 rintro _ w1 ⟨rfl,rfl⟩
 go_wp2_with fail
 go_ret
 exact⟨by first|rfl|(simp;done)|(simp;omega),(Below.refl w.heap.size w).alloc (Nat.le_refl _) _⟩
theorem yqy (r:Rp)(w:World)(k1:(r.kind == 1)=false)(k2:(r.kind == 2)=true)(h0:Tx.num r.index=false):
 Calls Tryz.prog 112 #[.agg r.cells.toArray] w fun e w'=>e=.returned (.bool false)∧Below w.heap.size w w':=by
 obtain⟨c0,c1,c2,c3⟩:=ydf (Row.new w 64 r.cells)
 have N0:Hid (∀W,Calls Tryz.prog 150 #[.int .i64 r.index] W fun e w'=>e=.returned (.bool false)∧W=w'):=fun W=>by have:=ybe r.index W;rw[h0]at this;exact this
 clear h0
 generalize r.cells=C at *
 go_enter Tryz.func112,Tryz.ntmps112
 go_wp2_with fail
 refine(N0.out _).mono ?_
 rintro _ w1 ⟨rfl,rfl⟩
 go_wp2_with fail
 go_ret
 exact⟨by first|rfl|(simp;done)|(simp;omega),(Below.refl w.heap.size w).alloc (Nat.le_refl _) _⟩
theorem yqx (r:Rp)(w:World)(k1:(r.kind == 1)=false)(k2:(r.kind == 2)=true)(h0:Tx.num r.index=true)(h1:Tx.num r.time=false):
 Calls Tryz.prog 112 #[.agg r.cells.toArray] w fun e w'=>e=.returned (.bool false)∧Below w.heap.size w w':=by
 obtain⟨c0,c1,c2,c3⟩:=ydf (Row.new w 64 r.cells)
 have N0:Hid (∀W,Calls Tryz.prog 150 #[.int .i64 r.index] W fun e w'=>e=.returned (.bool true)∧W=w'):=fun W=>by have:=ybe r.index W;rw[h0]at this;exact this
 have N1:Hid (∀W,Calls Tryz.prog 150 #[.int .i64 r.time] W fun e w'=>e=.returned (.bool false)∧W=w'):=fun W=>by have:=ybe r.time W;rw[h1]at this;exact this
 clear h0 h1
 generalize r.cells=C at *
 go_enter Tryz.func112,Tryz.ntmps112
 go_wp2_with fail
 refine(N0.out _).mono ?_
 rintro _ w1 ⟨rfl,rfl⟩
 go_wp2_with fail
 refine(N1.out _).mono ?_
 rintro _ w1 ⟨rfl,rfl⟩
 go_wp2_with fail
 go_ret
 exact⟨by first|rfl|(simp;done)|(simp;omega),(Below.refl w.heap.size w).alloc (Nat.le_refl _) _⟩
theorem yqw (r:Rp)(w:World)(k1:(r.kind == 1)=false)(k2:(r.kind == 2)=true)(h0:Tx.num r.index=true)(h1:Tx.num r.time=true)(h2 :¬(r.body.size:Int)≤656):
 Calls Tryz.prog 112 #[.agg r.cells.toArray] w fun e w'=>e=.returned (.bool false)∧Below w.heap.size w w':=by
 obtain⟨c0,c1,c2,c3⟩:=ydf (Row.new w 64 r.cells)
 have N0:Hid (∀W,Calls Tryz.prog 150 #[.int .i64 r.index] W fun e w'=>e=.returned (.bool true)∧W=w'):=fun W=>by have:=ybe r.index W;rw[h0]at this;exact this
 have N1:Hid (∀W,Calls Tryz.prog 150 #[.int .i64 r.time] W fun e w'=>e=.returned (.bool true)∧W=w'):=fun W=>by have:=ybe r.time W;rw[h1]at this;exact this
 clear h0 h1
 generalize r.cells=C at *
 go_enter Tryz.func112,Tryz.ntmps112
 go_wp2_with fail
 refine(N0.out _).mono ?_
 rintro _ w1 ⟨rfl,rfl⟩
 go_wp2_with fail
 refine(N1.out _).mono ?_
 rintro _ w1 ⟨rfl,rfl⟩
 go_wp2_with fail
 go_ret
 exact⟨by first|rfl|(simp;done)|(simp;omega),(Below.refl w.heap.size w).alloc (Nat.le_refl _) _⟩
theorem yqv (r:Rp)(w:World)(k1:(r.kind == 1)=false)(k2:(r.kind == 2)=true)(h0:Tx.num r.index=true)(h1:Tx.num r.time=true)(h2:(r.body.size:Int)≤656):
 Calls Tryz.prog 112 #[.agg r.cells.toArray] w fun e w'=>e=.returned (.bool true)∧Below w.heap.size w w':=by
 obtain⟨c0,c1,c2,c3⟩:=ydf (Row.new w 64 r.cells)
 have N0:Hid (∀W,Calls Tryz.prog 150 #[.int .i64 r.index] W fun e w'=>e=.returned (.bool true)∧W=w'):=fun W=>by have:=ybe r.index W;rw[h0]at this;exact this
 have N1:Hid (∀W,Calls Tryz.prog 150 #[.int .i64 r.time] W fun e w'=>e=.returned (.bool true)∧W=w'):=fun W=>by have:=ybe r.time W;rw[h1]at this;exact this
 clear h0 h1
 generalize r.cells=C at *
 go_enter Tryz.func112,Tryz.ntmps112
 go_wp2_with fail
 refine(N0.out _).mono ?_
 rintro _ w1 ⟨rfl,rfl⟩
 go_wp2_with fail
 refine(N1.out _).mono ?_
 rintro _ w1 ⟨rfl,rfl⟩
 go_wp2_with fail
 go_ret
 exact⟨by first|rfl|(simp;done)|(simp;omega),(Below.refl w.heap.size w).alloc (Nat.le_refl _) _⟩
theorem ys8 (r:Rp)(w:World)(k1:(r.kind == 1)=false)(k2:(r.kind == 2)=false):
 Calls Tryz.prog 112 #[.agg r.cells.toArray] w fun e w'=>e=.returned (.bool false)∧Below w.heap.size w w':=by
 obtain⟨c0,c1,c2,c3⟩:=ydf (Row.new w 64 r.cells)
 generalize r.cells=C at *
 go_enter Tryz.func112,Tryz.ntmps112
 go_wp2_with fail
 go_ret
 exact⟨by first|rfl|(simp;done)|(simp;omega),(Below.refl w.heap.size w).alloc (Nat.le_refl _) _⟩
theorem yd8 (r:Rp)(w:World):
 Calls Tryz.prog 112 #[.agg r.cells.toArray] w fun e w'=>e=.returned (.bool r.ok)∧Below w.heap.size w w':=by
 unfold Rp.ok
 rcases Bool.eq_false_or_eq_true (r.kind == 1)with k1|k1
 · rcases Bool.eq_false_or_eq_true (Tx.num r.index)with h0|h0
   · rcases Bool.eq_false_or_eq_true (Tx.num r.time)with h1|h1
     · by_cases h2:(r.body.size:Int)≤656
       · rw[k1,h0,h1,decide_eq_true h2];exact yqz r w k1 h0 h1 h2
       · rw[k1,h0,h1,decide_eq_false h2];exact yq0 r w k1 h0 h1 h2
     · rw[k1,h0,h1];exact yq1 r w k1 h0 h1
   · rw[k1,h0];exact yq2 r w k1 h0
 · rcases Bool.eq_false_or_eq_true (r.kind == 2)with k2|k2
   · rcases Bool.eq_false_or_eq_true (Tx.num r.index)with h0|h0
     · rcases Bool.eq_false_or_eq_true (Tx.num r.time)with h1|h1
       · by_cases h2:(r.body.size:Int)≤656
         · rw[k1,k2,h0,h1,decide_eq_true h2];exact yqv r w k1 k2 h0 h1 h2
         · rw[k1,k2,h0,h1,decide_eq_false h2];exact yqw r w k1 k2 h0 h1 h2
       · rw[k1,k2,h0,h1];exact yqx r w k1 k2 h0 h1
     · rw[k1,k2,h0];exact yqy r w k1 k2 h0
   · rw[k1,k2];exact ys8 r w k1 k2
theorem ycs (r:Rp)(w:World)(h:r.ok=true):
 Calls Tryz.prog 130 #[.agg r.cells.toArray] w fun e w' =>∃v,e=.returned v∧w'.ownsRow w.heap.size 9 1 v 4 (r.texts.map S)∧Below w.heap.size w w':=by
 obtain⟨i0,hi,hz,hs,hby⟩:=str5
 have Hi:=yh hi
 have Hz:=yh hz
 have Hs:=yh hs
 have Hby:=yh hby
 have hB:=Rp.ylt h
 have NB:Hid (∀(W:World) (nb:Nat),Row W nb 3 (Is r.numsL)→Calls Tryz.prog 162 #[.slice (some ⟨nb,0,none⟩) 3 3] W fun e w' =>∃v,e=.returned v∧w'.ownsRow W.heap.size 9 1 v 3 ((r.numsL.map fun x=>Oct.num x.toNat).map S)∧Below W.heap.size W w'):=fun W nb hN=>
  ylu r.numsL 3 hB W nb hN (by simp[Rp.numsL])
 have BX:Hid (∀(W:World) (g:Nat) (T:TypeId),Row W g T r.cells→W.cell? ⟨g,0,none⟩=some (.int .i64 r.index)∧W.cell? ⟨g,1,none⟩=some (.int .i64 r.kind)∧W.cell? ⟨g,2,none⟩=some (.int .i64 r.time)∧W.cell? ⟨g,3,none⟩=some (.string r.body)):=fun W g T h=>ydf h
 have hff:(r.numsL.map fun x=>Oct.num x.toNat).map S ++ [Value.string r.body]=r.texts.map S:=by unfold Rp.texts;rw[List.map_append];rfl
 have Hff:=yh hff
 have hS0:RowIn w (w.alloc (.cells r.cells.toArray 64)).drew w.heap.size 64 r.cells:=(ye9 (Below.refl _ _)).drew
 have HS0:=yh hS0
 have hnl:Is r.numsL=Is [r.index,r.kind,r.time]:=rfl
 rw[hnl]at NB
 generalize (r.numsL.map fun x=>Oct.num x.toNat).map S=NS at *
 generalize r.texts.map S=L at *
 generalize r.cells=C at *
 generalize r.index=kd at *
 generalize r.kind=who at *
 generalize r.time=n at *
 generalize r.body=tx at *
 clear hi hz hs hby h hff hS0 hB hnl
 go_enter Tryz.func130,Tryz.ntmps130
 go_wp2_with fail
 refine wp_region_held_drew (S:=fun w'=>RowIn w w' w.heap.size 64 C) (by kernel_rfl) (HS0.out) (fun gH=>?_)
 generalize (w.alloc (.cells C.toArray 64)).drew=w9 at *
 refine yg 0 (.pointer (some ⟨w.heap.size,0,none⟩)) rfl gH ?_
 refine yk 1 (.int .i64 kd) rfl (fun w' hSw=>by have hq:=hSw;have hc:=(BX.out _ _ _ hq.1).1;go_simp) gH ?_
 refine yg 2 (.pointer (some ⟨w.heap.size,1,none⟩)) rfl gH ?_
 simp only[Act.put,Ya,Yb,Yc,Yd,Ye,Yf]
 refine yk 3 (.int .i64 who) rfl (fun w' hSw=>by have hq:=hSw;have hc:=(BX.out _ _ _ hq.1).2.1;go_simp) gH ?_
 refine yg 4 (.pointer (some ⟨w.heap.size,2,none⟩)) rfl gH ?_
 refine yk 5 (.int .i64 n) rfl (fun w' hSw=>by have hq:=hSw;have hc:=(BX.out _ _ _ hq.1).2.2.1;go_simp) gH ?_
 simp only[Act.put,Ya,Yb,Yc,Yd,Ye,Yf]
 refine yg 8 (.pointer (some ⟨w.heap.size,3,none⟩)) rfl gH ?_
 refine yk 9 (.string tx) rfl (fun w' hSw=>by have hq:=hSw;have hc:=(BX.out _ _ _ hq.1).2.2.2;go_simp) gH ?_
 refine yS 6 10 (by kernel_rfl) rfl rfl (fun K1 hK1=>?_) (fun K1 hK1=>?_)
 · skip
   try simp only[Act.put,Ya,Yb,Yc,Yd,Ye,Yf]
   go_simp
   have hd2:=(Below.refl w9.heap.size w9).alloc (Nat.le_refl _) (.cells #[.int .i64 kd,.int .i64 who,.int .i64 n] 3)
   have r1:Row (w9.alloc (.cells #[.int .i64 kd,.int .i64 who,.int .i64 n] 3)) w9.heap.size 3 (Is [kd,who,n]):=Row.new w9 3 (Is [kd,who,n])
   have eH:=gH.step hd2
   generalize w9.alloc (.cells #[.int .i64 kd,.int .i64 who,.int .i64 n] 3)=wb1 at *
   obtain⟨gb3,gb3e⟩ :∃gb3,gb3=w9.heap.size:=⟨_,rfl⟩
   rw[←gb3e]at r1 ⊢
   refine hK1.out _ _ eH (fun gH=>?_)
   clear hK1 K1
   clear eH gb3e
   refine yS 7 10 (by kernel_rfl) rfl rfl (fun K1 hK1=>?_) (fun K1 hK1=>?_)
   · skip
     try simp only[Act.put,Ya,Yb,Yc,Yd,Ye,Yf]
     go_simp
     refine Calls.mono (NB.out _ _ r1) ?_
     rintro e wn4 ⟨vN,rfl,hown,hn5⟩
     have hown:=hown.mono gH.size
     clear r1
     refine hK1.out _ _ (gH.step hn5) (fun gH=>?_)
     clear hK1 K1
     refine yR 10 (by kernel_rfl) rfl (fun K1 hK1=>?_)
     try simp only[Act.put,Ya,Yb,Yc,Yd,Ye,Yf]
     go_simp
     have hd7:=(Below.refl wn4.heap.size wn4).alloc (Nat.le_refl _) (.cells #[.string tx] 9)
     have r2:Row (wn4.alloc (.cells #[.string tx] 9)) wn4.heap.size 9 ([.string tx]):=Row.new wn4 9 ([.string tx])
     have hown:=yb8 hown hd7
     have eH:=gH.step hd7
     generalize wn4.alloc (.cells #[.string tx] 9)=wb6 at *
     obtain⟨gb8,gb8e⟩ :∃gb8,gb8=wn4.heap.size:=⟨_,rfl⟩
     rw[←gb8e]at r2 ⊢
     refine hK1.out _ _ eH (fun gH=>?_)
     clear hK1 K1
     clear eH gb8e
     refine yR 11 (by kernel_rfl) rfl (fun K1 hK1=>?_)
     try simp only[Act.put,Ya,Yb,Yc,Yd,Ye,Yf]
     rw[if_pos (by rfl)]
     refine wp_append_own_wide wb6 _ _ 56 rfl w.heap.size 9 i0 (.string ByteArray.empty) 1 16 Tryz.underlying56 Hi.out Hz.out Hs.out Hby.out rfl (by decide) vN 3 NS rfl hown ⟨gb8,0,none⟩ 1 1 [.string tx] rfl rfl (yeu r2) (by intro u hu;simp at hu;first|(subst hu;rfl)|(rcases hu with rfl|rfl <;> rfl)) (by unfold maxLen;omega) (by omega) gH.size fun vP wp9 hownP hgrow _=>?_
     have eH:=yd1 gH (by decide) hown (Nat.le_refl _) hgrow
     have hownP:=yh hownP
     clear hown r2 hgrow
     refine hK1.out _ _ eH (fun gH=>?_)
     clear hK1 K1
     refine yg 12 (vP) rfl gH ?_
     refine wpAnyH_done (by kernel_rfl) ?_ _
     have Hbe:=yh gH.2
     clear gH
     go_wp2_with fail
     go_ret
     exact⟨vP,rfl,by rw[←Hff.out];exact hownP.out,Hbe.out⟩
   · skip
     try simp only[Act.put,Ya,Yb,Yc,Yd,Ye,Yf]
     go_simp
     have hd11:=(Below.refl wb1.heap.size wb1).alloc (Nat.le_refl _) (.cells #[.string tx] 9)
     have r2:Row (wb1.alloc (.cells #[.string tx] 9)) wb1.heap.size 9 ([.string tx]):=Row.new wb1 9 ([.string tx])
     have r1:=r1.kept (yae hd11 none) (by simp)
     have eH:=gH.step hd11
     generalize wb1.alloc (.cells #[.string tx] 9)=wb10 at *
     obtain⟨gb12,gb12e⟩ :∃gb12,gb12=wb1.heap.size:=⟨_,rfl⟩
     rw[←gb12e]at r2 ⊢
     refine hK1.out _ _ eH (fun gH=>?_)
     clear hK1 K1
     clear eH gb12e
     refine yR 7 (by kernel_rfl) rfl (fun K1 hK1=>?_)
     try simp only[Act.put,Ya,Yb,Yc,Yd,Ye,Yf]
     go_simp
     refine Calls.mono (NB.out _ _ r1) ?_
     rintro e wn13 ⟨vN,rfl,hown,hn14⟩
     have hown:=hown.mono gH.size
     clear r1
     have r2:=r2.kept (yae hn14 none) (by simp)
     refine hK1.out _ _ (gH.step hn14) (fun gH=>?_)
     clear hK1 K1
     refine yR 11 (by kernel_rfl) rfl (fun K1 hK1=>?_)
     try simp only[Act.put,Ya,Yb,Yc,Yd,Ye,Yf]
     rw[if_pos (by rfl)]
     refine wp_append_own_wide wn13 _ _ 56 rfl w.heap.size 9 i0 (.string ByteArray.empty) 1 16 Tryz.underlying56 Hi.out Hz.out Hs.out Hby.out rfl (by decide) vN 3 NS rfl hown ⟨gb12,0,none⟩ 1 1 [.string tx] rfl rfl (yeu r2) (by intro u hu;simp at hu;first|(subst hu;rfl)|(rcases hu with rfl|rfl <;> rfl)) (by unfold maxLen;omega) (by omega) gH.size fun vP wp15 hownP hgrow _=>?_
     have eH:=yd1 gH (by decide) hown (Nat.le_refl _) hgrow
     have hownP:=yh hownP
     clear hown r2 hgrow
     refine hK1.out _ _ eH (fun gH=>?_)
     clear hK1 K1
     refine yg 12 (vP) rfl gH ?_
     refine wpAnyH_done (by kernel_rfl) ?_ _
     have Hbe:=yh gH.2
     clear gH
     go_wp2_with fail
     go_ret
     exact⟨vP,rfl,by rw[←Hff.out];exact hownP.out,Hbe.out⟩
 · skip
   try simp only[Act.put,Ya,Yb,Yc,Yd,Ye,Yf]
   go_simp
   have hd17:=(Below.refl w9.heap.size w9).alloc (Nat.le_refl _) (.cells #[.string tx] 9)
   have r2:Row (w9.alloc (.cells #[.string tx] 9)) w9.heap.size 9 ([.string tx]):=Row.new w9 9 ([.string tx])
   have eH:=gH.step hd17
   generalize w9.alloc (.cells #[.string tx] 9)=wb16 at *
   obtain⟨gb18,gb18e⟩ :∃gb18,gb18=w9.heap.size:=⟨_,rfl⟩
   rw[←gb18e]at r2 ⊢
   refine hK1.out _ _ eH (fun gH=>?_)
   clear hK1 K1
   clear eH gb18e
   refine yR 6 (by kernel_rfl) rfl (fun K1 hK1=>?_)
   try simp only[Act.put,Ya,Yb,Yc,Yd,Ye,Yf]
   go_simp
   have hd20:=(Below.refl wb16.heap.size wb16).alloc (Nat.le_refl _) (.cells #[.int .i64 kd,.int .i64 who,.int .i64 n] 3)
   have r1:Row (wb16.alloc (.cells #[.int .i64 kd,.int .i64 who,.int .i64 n] 3)) wb16.heap.size 3 (Is [kd,who,n]):=Row.new wb16 3 (Is [kd,who,n])
   have r2:=r2.kept (yae hd20 none) (by simp)
   have eH:=gH.step hd20
   generalize wb16.alloc (.cells #[.int .i64 kd,.int .i64 who,.int .i64 n] 3)=wb19 at *
   obtain⟨gb21,gb21e⟩ :∃gb21,gb21=wb16.heap.size:=⟨_,rfl⟩
   rw[←gb21e]at r1 ⊢
   refine hK1.out _ _ eH (fun gH=>?_)
   clear hK1 K1
   clear eH gb21e
   refine yR 7 (by kernel_rfl) rfl (fun K1 hK1=>?_)
   try simp only[Act.put,Ya,Yb,Yc,Yd,Ye,Yf]
   go_simp
   refine Calls.mono (NB.out _ _ r1) ?_
   rintro e wn22 ⟨vN,rfl,hown,hn23⟩
   have hown:=hown.mono gH.size
   clear r1
   have r2:=r2.kept (yae hn23 none) (by simp)
   refine hK1.out _ _ (gH.step hn23) (fun gH=>?_)
   clear hK1 K1
   refine yR 11 (by kernel_rfl) rfl (fun K1 hK1=>?_)
   try simp only[Act.put,Ya,Yb,Yc,Yd,Ye,Yf]
   rw[if_pos (by rfl)]
   refine wp_append_own_wide wn22 _ _ 56 rfl w.heap.size 9 i0 (.string ByteArray.empty) 1 16 Tryz.underlying56 Hi.out Hz.out Hs.out Hby.out rfl (by decide) vN 3 NS rfl hown ⟨gb18,0,none⟩ 1 1 [.string tx] rfl rfl (yeu r2) (by intro u hu;simp at hu;first|(subst hu;rfl)|(rcases hu with rfl|rfl <;> rfl)) (by unfold maxLen;omega) (by omega) gH.size fun vP wp24 hownP hgrow _=>?_
   have eH:=yd1 gH (by decide) hown (Nat.le_refl _) hgrow
   have hownP:=yh hownP
   clear hown r2 hgrow
   refine hK1.out _ _ eH (fun gH=>?_)
   clear hK1 K1
   refine yg 12 (vP) rfl gH ?_
   refine wpAnyH_done (by kernel_rfl) ?_ _
   have Hbe:=yh gH.2
   clear gH
   go_wp2_with fail
   go_ret
   exact⟨vP,rfl,by rw[←Hff.out];exact hownP.out,Hbe.out⟩
theorem textsL {r:Rp}{W:World}{base:Nat}{v:Value}(h:W.ownsRow base 9 1 v 4 (r.texts.map S)):
 Calls Tryz.prog 95 #[v] W fun e w' =>∃n:Int,e=.returned (.tuple #[S (Oct.listE r.texts).1,.int .i64 n])∧Below W.heap.size W w':=
 (yfe (k:=3) _ rfl h rfl).mono fun e w' ⟨h1,h2⟩=>⟨_,h1,h2⟩
theorem yi5 (r:Rp)(hp:r.prev.length=32)(hh:r.hash.length=32)(w:World)(hT:Tab w)(hk:r.ok=true):
 Calls Tryz.prog 113 #[.agg r.cells.toArray] w fun e w'=>e=.returned (.agg (bRow r.link))∧Below w.heap.size w w':=by
 have HL:=yh (Rp.yao hp hh)
 have Hrow0:=yh (Row.new w 64 r.cells)
 have HTab:=yh hT
 have Hp:=yh hT.pos
 have hbl:=yc3 r.texts
 have RT:=yh (fun W=>ycs r W hk)
 have BL:Hid (∀(W:World) (base:Nat) (v:Value),W.ownsRow base 9 1 v 4 (r.texts.map S)→Calls Tryz.prog 95 #[v] W fun e w' =>∃n:Int,e=.returned (.tuple #[S (Oct.listE r.texts).1,.int .i64 n])∧Below W.heap.size W w'):=fun W base v h=>textsL h
 have CH:Hid (∀W,Tab W→Calls Tryz.prog 151 #[.agg (bRow r.prev),S (Oct.listE r.texts).1] W fun e w'=>e=.returned (.agg (bRow r.link))∧Below W.heap.size W w'):=fun W hW=>yrs r.prev ⟨(Oct.listE r.texts).1.toArray⟩ W hW hp (by show (Oct.listE r.texts).1.length≤_;omega)
 have BX:Hid (∀(W:World) (g:Nat) (T:TypeId),Row W g T r.cells→W.rangeAt g 4 (bRow r.prev).toList):=fun W g T h=>yla hp h
 have HPL:=yh (Tx.yap _ hp)
 have HB32:=yh (Tx.yap _ (Rp.ybf r))
 have HR:=yh (Rp.ybf r)
 have HZ32:=yh (Tx.yap Tx.zero rfl)
 have hzv:=yi8
 generalize r.texts.map S=NS at *
 generalize (Oct.listE r.texts).1=bs at *
 generalize r.link=K at *
 generalize r.cells=C at *
 clear hT hp hh hk hbl
 go_enter Tryz.func113,Tryz.ntmps113
 go_wp2_with (with_reducible show wpList _ _ _ (⟨_,.load 64 _,_,_,_,_⟩::_) _ _;refine yac rfl 64 (.tmp 1) rfl w.heap.size 0 rfl C _ (World.rangeAt_alloc (yah Hrow0.out) _) Tryz.underlying64 rfl (by rw[yaf,HL.out]) ?_)
 refine yau ?_
 intro w1 hw1
 have hb1:Below w.heap.size w w1:=by rw[hw1];exact(ycg w C.toArray (bRow Tx.zero) 64 62).2.1
 have hr1:Row w1 (w.heap.size+1) 62 (bRow Tx.zero).toList:=by rw[hw1];exact(ycg w C.toArray (bRow Tx.zero) 64 62).1
 have hq1:Row w1 w.heap.size 64 C:=by rw[hw1];exact(ycg w C.toArray (bRow Tx.zero) 64 62).2.2
 clear hw1 hzv
 refine(RT.out w1).mono ?_
 rintro _ w2 ⟨v,rfl,hown,hb2⟩
 have hg2:=yae hb2 none
 have Hr2:=yh (hr1.kept hg2 (by simp))
 have Hq2:=yh (hq1.kept hg2 (by simp))
 have Hb2:=yh (yaa hb1 hb2)
 have Hown:=yh hown
 clear hb1 hr1 hq1 hb2 hg2 hown
 go_wp2_with fail
 refine(BL.out w2 _ v Hown.out).mono ?_
 rintro _ w3 ⟨n,rfl,hb3⟩
 have hg3:=yae hb3 none
 have Hr3:=yh (Hr2.out.kept hg3 (by simp))
 have Hb3:=yh (yaa Hb2.out hb3)
 have Hrt:=yh (BX.out _ _ _ (Hq2.out.kept hg3 (by simp)))
 clear hb3 hg3
 go_wp2_with (with_reducible show wpList _ _ _ (⟨_,.load 62 _,_,_,_,_⟩::_) _ _;refine yac rfl 62 (.tmp 11) rfl w.heap.size 4 rfl (bRow r.prev).toList _ Hrt.out Tryz.underlying62 rfl (by rw[yas,HPL.out]) ?_)
 refine(CH.out w3 (HTab.out.below Hb3.out Hp.out)).mono ?_
 rintro _ w4 ⟨rfl,hb4⟩
 have Hr4:=yh (Hr3.out.kept (yae hb4 none) (by simp))
 have Hb4:=yh (yaa Hb3.out hb4)
 clear hb4
 go_wp2_with (with_reducible show wpList _ _ _ (⟨_, .store 62 _ _, _, _, _, _⟩ :: _) _ _
              refine yab rfl 62 (.tmp 2) (.tmp 14) rfl (w.heap.size+1) 0 (bRow K).toList _ _ rfl rfl Hr4.out (by have:=HB32.out;have:=HZ32.out;omega) (by rw[yas,HB32.out]) (ybw K HR.out) ?_
              intro w5 hr5 hg5
              rw[yad (HB32.out.trans HZ32.out.symm)]at hr5
              have Hr5:=yh hr5
              have Hb5:=yh (below_own Hb4.out hg5 (fun k hk=>by cases hk;omega))
              clear hr5 hg5)
 refine bodyPost_ret (results_cell_row rfl _ _ (w.heap.size+1) _ _ (0,0) _ rfl Hr5.out Tryz.underlying62 rfl (by rw[yas,List.size_toArray,HB32.out])) rfl ⟨rfl,Hb5.out⟩
end
section
open Go.RowKit
theorem ypr:(Tryz.prog.underlying 64).map (fun d=>match d with | .struct fields=>fields.toList.mapM (fun f=>(Tryz.prog.info? f.type).map fun i=>(f.offset,i.size))|_=>Option.none)=some (some [(0,1),(1,1),(2,1),(3,1),(4,32),(36,32)]):=by kernel_rfl
theorem yug:(Tryz.prog.info? 64).map (·.zero)=some (some (.agg Rp.zero.cells.toArray)):=by kernel_rfl
theorem yml (parts:List (Nat×Value)):Tryz.prog.built 64 parts=Instr.fill (#[(0,1),(1,1),(2,1),(3,1),(4,32),(36,32)][·]?) Rp.zero.cells.toArray parts:=by
 obtain⟨i0,hi,hz⟩:=Option.map_eq_some_iff.1 yug
 have hp:=ypr
 rw[Tryz.underlying64]at hp
 simp only[Option.map_some,Option.some.injEq]at hp
 unfold Program.built
 rw[hi,Tryz.underlying64]
 simp only[hz,hp]
 rfl
theorem ypu (a b c:Int)(s:ByteArray)(R:List UInt8)(hR:R.length=32):
 Tryz.prog.built 64 [(0,.int .i64 a),(1,.int .i64 b),(2,.int .i64 c),(3,.string s),(4,.agg (bRow R))]=some (Rp.cells ⟨a,b,c,s,R,Tx.zero⟩).toArray:=by
 have hz:=Tx.yap Tx.zero rfl
 have hr:=Tx.yap R hR
 have hL:=Rp.yao (r:=Rp.zero) rfl rfl
 rw[yml]
 rw[ya4 _ _ 0 _ [.int .i64 a] _ 0 1 rfl rfl rfl (by rw[hL];omega)]
 rw[ya4 _ _ 1 _ [.int .i64 b] _ 1 1 rfl rfl rfl (by simp only[List.length_append,List.length_take,List.length_drop,List.length_cons,List.length_nil,hL];omega)]
 rw[ya4 _ _ 2 _ [.int .i64 c] _ 2 1 rfl rfl rfl (by simp only[List.length_append,List.length_take,List.length_drop,List.length_cons,List.length_nil,hL];omega)]
 rw[ya4 _ _ 3 _ [.string s] _ 3 1 rfl rfl rfl (by simp only[List.length_append,List.length_take,List.length_drop,List.length_cons,List.length_nil,hL];omega)]
 rw[ya4 _ _ 4 _ (bRow R).toList _ 4 32 rfl (by simp[Value.cells]) hr (by simp only[List.length_append,List.length_take,List.length_drop,List.length_cons,List.length_nil,hL];omega)]
 rw[ydt]
 have e :∀Z:List Value,Z.length=32→([.int .i64 0,.int .i64 0,.int .i64 0,.string ByteArray.empty]++(Z++Z):List Value).drop 36=Z:=fun Z hZ=>by
  show ((Z++Z).drop 32)=Z
  rw[List.drop_left' hZ]
 unfold Rp.cells Rp.zero
 simp only[List.cons_append,List.nil_append,List.take_succ_cons,List.take_zero,List.drop_succ_cons,List.drop_zero]
 rw[List.drop_left' hz]
theorem yjv (w:World)(A B D:List Value)(t1 t2 t3:TypeId):Row (((w.alloc (.cells A.toArray t1)).alloc (.cells B.toArray t2)).alloc (.cells D.toArray t3)) (w.heap.size+1+1) t3 D∧Below w.heap.size w (((w.alloc (.cells A.toArray t1)).alloc (.cells B.toArray t2)).alloc (.cells D.toArray t3))∧Row (((w.alloc (.cells A.toArray t1)).alloc (.cells B.toArray t2)).alloc (.cells D.toArray t3)) (w.heap.size+1) t2 B∧Row (((w.alloc (.cells A.toArray t1)).alloc (.cells B.toArray t2)).alloc (.cells D.toArray t3)) w.heap.size t1 A:=by
 obtain⟨h1,h2,h3⟩:=ycg w A.toArray B.toArray t1 t2
 have h:=Row.new ((w.alloc (.cells A.toArray t1)).alloc (.cells B.toArray t2)) t3 D
 rw[show ((w.alloc (.cells A.toArray t1)).alloc (.cells B.toArray t2)).heap.size=w.heap.size+1+1 by simp]at h
 exact⟨h,h2.alloc (by simp;omega) _,h1.kept (yaw _ _ none) (by simp),h3.kept (yaw _ _ none) (by simp)⟩
theorem ykd (a k n:Int)(body:ByteArray)(p:List UInt8)(hp:p.length=32)(w:World)(hT:Tab w):
 Calls Tryz.prog 128 #[.agg (bRow p),.int .i64 a,.int .i64 k,.int .i64 n,.string body] w fun e w'=>e=.returned (Rp.pairV (Rp.linkE ⟨a,k,n,body,p,Tx.zero⟩))∧Below w.heap.size w w':=by
 obtain⟨r,hr⟩ :∃r:Rp,r=⟨a,k,n,body,p,Tx.zero⟩:=⟨_,rfl⟩
 have hrp:r.prev.length=32:=by rw[hr];exact hp
 have hrh:r.hash.length=32:=by rw[hr];rfl
 have hbu:=ypu a k n body p hp
 rw[←hr]at hbu ⊢
 have Hbu:=yh hbu
 have MB:=yh (fun W=>yd8 r W)
 have HL:=yh (Rp.yao hrp hrh)
 have HL1:=yh (Rp.yan hrp hrh)
 have HZL:=yh (Rp.yao (r:=Rp.zero) rfl rfl)
 have HZ1:=yh (Rp.yan (r:=Rp.zero) rfl rfl)
 have HTab:=yh hT
 have Hp:=yh hT.pos
 have HPL:=yh (Tx.yap _ hp)
 have Hcl:=yh (Rp.ymo hrp hrh r.link (Rp.ybf r))
 have hce:Rp.cells { r with hash:=r.link } = r.linked.cells:=rfl
 rw[hce]at Hcl
 have HDL:=yh (Rp.yao (r:=r.linked) hrp (Rp.ybf r))
 have HD1:=yh (Rp.yan (r:=r.linked) hrp (Rp.ybf r))
 have HB32:=yh (Tx.yap _ (Rp.ybf r))
 have HR:=yh (Rp.ybf r)
 have Hrow0:=yh (Row.new w 62 (bRow p).toList)
 have hzv :∀W:World,(zeroValue 64).run Tryz.prog W=.ok (.agg Rp.zero.cells.toArray) W:=fun W=>by kernel_rfl
 rcases Bool.eq_false_or_eq_true r.ok with hk|hk
 all_goals rw[hk]at MB
 · have LK:=yh (fun W (hW:Tab W)=>yi5 r hrp hrh W hW hk)
   have he:Rp.pairV r.linkE=.tuple #[.agg r.linked.cells.toArray,.int .i64 0]:=by unfold Rp.linkE;rw[if_pos hk];rfl
   rw[he]
   generalize r.linked.cells=D at *
   generalize r.link=K at *
   generalize r.cells=C at *
   clear hT hp hrp hrh hr hbu hk he hce
   go_enter Tryz.func128,Tryz.ntmps128
   have H3:=yh (yjv w (bRow p).toList Rp.zero.cells Rp.zero.cells 62 64 64)
   go_wp2_with (first
    | (with_reducible show wpList _ _ _ (⟨_,.load 62 _,_,_,_,_⟩::_) _ _;refine yac rfl 62 (.tmp 5) rfl w.heap.size 0 rfl (bRow p).toList _ (World.rangeAt_alloc (yah Hrow0.out) _) Tryz.underlying62 rfl (by rw[yas,HPL.out]) ?_)
    | ((with_reducible show wpList _ _ _ (⟨_,.build 64 _,_,_,_,_⟩::_) _ _);refine yak rfl 64 [(0,.tmp 13),(1,.tmp 14),(2,.tmp 15),(3,.tmp 16),(4,.tmp 17)] rfl (some 18) rfl [(0,.int .i64 a),(1,.int .i64 k),(2,.int .i64 n),(3,.string body),(4,.agg (bRow p))] rfl C.toArray Hbu.out ?_)
    | (with_reducible show wpList _ _ _ (⟨_, .store 64 _ _, _, _, _, _⟩ :: _) _ _
       refine yab rfl 64 (.tmp 12) (.tmp 18) rfl (w.heap.size+1+1) 0 C _ _ rfl rfl H3.out.1 (by have:=HZL.out;have:=HL.out;omega) (by rw[yaf,HL.out]) HL1.out ?_
       intro w1 hr1 hg1
       rw[yad (HL.out.trans HZL.out.symm)]at hr1
       have Hq1:=yh hr1
       have Hr1:=yh (H3.out.2.2.1.kept hg1 (by simp))
       have Hp1:=yh (H3.out.2.2.2.kept hg1 (by simp;omega))
       have Hb1:=yh (below_own H3.out.2.1 hg1 (fun k hk=>by cases hk;omega))
       clear hr1 hg1)
    | (with_reducible show wpList _ _ _ (⟨_,.load 64 _,_,_,_,_⟩::_) _ _;refine yac rfl 64 (.tmp 12) rfl (w.heap.size+1+1) 0 rfl C _ (yah Hq1.out) Tryz.underlying64 rfl (by rw[yaf,HL.out]) ?_))
   refine(MB.out w1).mono ?_
   rintro _ w2 ⟨rfl,hb2⟩
   have hg2:=yae hb2 none
   have Hr2:=yh (Hr1.out.kept hg2 (by simp))
   have Hq2:=yh (Hq1.out.kept hg2 (by simp))
   have Hb2:=yh (yaa Hb1.out hb2)
   have hlt2:=Hq2.out.lt
   clear hb2 hg2 hzv
   go_wp2_with (with_reducible show wpList _ _ _ (⟨_,.load 64 _,_,_,_,_⟩::_) _ _;refine yac rfl 64 (.tmp 12) rfl (w.heap.size+1+1) 0 rfl C _ (yah Hq2.out) Tryz.underlying64 rfl (by rw[yaf,HL.out]) ?_)
   refine(LK.out w2 (HTab.out.below Hb2.out Hp.out)).mono ?_
   rintro _ w3 ⟨rfl,hb3⟩
   have hg3:=yae hb3 none
   have Hr3:=yh (Hr2.out.kept hg3 (by simp))
   have Hq3:=yh (Hq2.out.kept hg3 (by simp))
   have Hb3:=yh (yaa Hb2.out hb3)
   clear hb3 hg3
   go_wp2_with (first
    | (with_reducible show wpList _ _ _ (⟨_, .store 62 _ _, _, _, _, _⟩ :: _) _ _
       refine yab rfl 62 (.tmp 25) (.tmp 24) rfl (w.heap.size+1+1) 36 (bRow K).toList _ _ rfl rfl Hq3.out (by rw[HB32.out,HL.out];decide) (by rw[yas,HB32.out]) (ybw K HR.out) ?_
       intro w5 hr5 hg5
       rw[Hcl.out]at hr5
       have Hq5:=yh hr5
       have Hr5:=yh (Hr3.out.kept hg5 (by simp))
       have Hb5:=yh (below_own Hb3.out hg5 (fun k hk=>by cases hk;omega))
       clear hr5 hg5)
    | (with_reducible show wpList _ _ _ (⟨_,.load 64 _,_,_,_,_⟩::_) _ _;refine yac rfl 64 (.tmp 12) rfl (w.heap.size+1+1) 0 rfl D _ (yah Hq5.out) Tryz.underlying64 rfl (by rw[yaf,HDL.out]) ?_)
    | (with_reducible show wpList _ _ _ (⟨_, .store 64 _ _, _, _, _, _⟩ :: _) _ _
       refine yab rfl 64 (.tmp 10) (.tmp 26) rfl (w.heap.size+1) 0 D _ _ rfl rfl Hr5.out (by have:=HZL.out;have:=HDL.out;omega) (by rw[yaf,HDL.out]) HD1.out ?_
       intro w8 hr8 hg8
       rw[yad (HDL.out.trans HZL.out.symm)]at hr8
       have Hr8:=yh hr8
       have Hb8:=yh (below_own Hb5.out hg8 (fun k hk=>by cases hk;omega))
       clear hr8 hg8))
   refine bodyPost_ret (yaj rfl _ _ (w.heap.size+1) 64 _ _ rfl Hr8.out Tryz.underlying64 rfl (by rw[yaf,List.size_toArray,HDL.out]) _ rfl) rfl ⟨rfl,Hb8.out⟩
 · have he:Rp.pairV r.linkE=.tuple #[.agg Rp.zero.cells.toArray,.int .i64 2]:=by unfold Rp.linkE;rw[if_neg (by rw[hk];simp)];rfl
   have He:=yh he
   generalize Rp.pairV r.linkE=NE at *
   generalize r.cells=C at *
   clear hT hp hrp hrh hr hbu hk he hce HDL HD1 HB32 HR Hcl
   go_enter Tryz.func128,Tryz.ntmps128
   have H3:=yh (yjv w (bRow p).toList Rp.zero.cells Rp.zero.cells 62 64 64)
   go_wp2_with (first
    | (with_reducible show wpList _ _ _ (⟨_,.load 62 _,_,_,_,_⟩::_) _ _;refine yac rfl 62 (.tmp 5) rfl w.heap.size 0 rfl (bRow p).toList _ (World.rangeAt_alloc (yah Hrow0.out) _) Tryz.underlying62 rfl (by rw[yas,HPL.out]) ?_)
    | ((with_reducible show wpList _ _ _ (⟨_,.build 64 _,_,_,_,_⟩::_) _ _);refine yak rfl 64 [(0,.tmp 13),(1,.tmp 14),(2,.tmp 15),(3,.tmp 16),(4,.tmp 17)] rfl (some 18) rfl [(0,.int .i64 a),(1,.int .i64 k),(2,.int .i64 n),(3,.string body),(4,.agg (bRow p))] rfl C.toArray Hbu.out ?_)
    | (with_reducible show wpList _ _ _ (⟨_, .store 64 _ _, _, _, _, _⟩ :: _) _ _
       refine yab rfl 64 (.tmp 12) (.tmp 18) rfl (w.heap.size+1+1) 0 C _ _ rfl rfl H3.out.1 (by have:=HZL.out;have:=HL.out;omega) (by rw[yaf,HL.out]) HL1.out ?_
       intro w1 hr1 hg1
       rw[yad (HL.out.trans HZL.out.symm)]at hr1
       have Hq1:=yh hr1
       have Hr1:=yh (H3.out.2.2.1.kept hg1 (by simp))
       have Hp1:=yh (H3.out.2.2.2.kept hg1 (by simp;omega))
       have Hb1:=yh (below_own H3.out.2.1 hg1 (fun k hk=>by cases hk;omega))
       clear hr1 hg1)
    | (with_reducible show wpList _ _ _ (⟨_,.load 64 _,_,_,_,_⟩::_) _ _;refine yac rfl 64 (.tmp 12) rfl (w.heap.size+1+1) 0 rfl C _ (yah Hq1.out) Tryz.underlying64 rfl (by rw[yaf,HL.out]) ?_))
   refine(MB.out w1).mono ?_
   rintro _ w2 ⟨rfl,hb2⟩
   have hg2:=yae hb2 none
   have Hr2:=yh (Hr1.out.kept hg2 (by simp))
   have Hq2:=yh (Hq1.out.kept hg2 (by simp))
   have Hb2:=yh (yaa Hb1.out hb2)
   have hlt2:=Hq2.out.lt
   clear hb2 hg2 hzv
   have Hr2':Hid (Row w2 (w.heap.size+1) 64 Rp.zero.cells):=Hr2
   clear Hr2
   go_wp2_with (first
    | (with_reducible show wpList _ _ _ (⟨_,.build 64 _,_,_,_,_⟩::_) _ _;refine yak rfl 64 [] rfl (some 22) rfl _ rfl _ Rp.yaz ?_)
    | (with_reducible show wpList _ _ _ (⟨_, .store 64 _ _, _, _, _, _⟩ :: _) _ _
       refine yab rfl 64 (.tmp 10) (.tmp 22) rfl (w.heap.size+1) 0 Rp.zero.cells _ _ rfl rfl Hr2'.out (by have:=HZL.out;omega) (by rw[yaf,HZL.out]) HZ1.out ?_
       intro wZ hrZ hgZ
       rw[yad rfl]at hrZ
       have HrZ:=yh hrZ
       have HbZ:=yh (below_own Hb2.out hgZ (fun k hk=>by cases hk;omega))
       clear hrZ hgZ))
   refine bodyPost_ret (yaj rfl _ _ (w.heap.size+1) 64 _ _ rfl HrZ.out Tryz.underlying64 rfl (by rw[yaf,List.size_toArray,HZL.out]) _ rfl) rfl ⟨?_,HbZ.out⟩
   rw[He.out]
   exact rfl
end
section
open Go.RowKit
theorem yf9 (r:Rp)(w:World)(hp:r.prev.length=32)(hh:r.hash.length=32)(h:r.ok=false):
 Calls Tryz.prog 94 #[.agg r.cells.toArray] w fun e w'=>e=.returned (.tuple #[S [],.int .i64 2])∧Below w.heap.size w w':=by
 have MB:Hid (∀W,Calls Tryz.prog 112 #[.agg r.cells.toArray] W fun e w'=>e=.returned (.bool false)∧Below W.heap.size W w'):=fun W=>by have:=yd8 r W;rw[h]at this;exact this
 have HL:=yh (Rp.yao hp hh)
 have Hrow0:=yh (Row.new w 64 r.cells)
 generalize r.cells=C at *
 clear h
 go_enter Tryz.func94,Tryz.ntmps94
 go_wp2_with (with_reducible show wpList _ _ _ (⟨_,.load 64 _,_,_,_,_⟩::_) _ _;refine yac rfl 64 (.tmp 1) rfl w.heap.size 0 rfl C _ (yah Hrow0.out) Tryz.underlying64 rfl (by rw[yaf,HL.out]) ?_)
 refine(MB.out _).mono ?_
 rintro _ w1 ⟨rfl,hb1⟩
 have Hb1:=yh (ya0 (yae hb1 none))
 clear hb1
 go_wp2_with fail
 go_ret2
 exact⟨rfl,Hb1.out⟩
theorem yga (r:Rp)(w:World)(hT:Tab w)(hp:r.prev.length=32)(hh:r.hash.length=32)(h:r.ok=true)(hl:r.hash≠r.link):
 Calls Tryz.prog 94 #[.agg r.cells.toArray] w fun e w'=>e=.returned (.tuple #[S [],.int .i64 7])∧Below w.heap.size w w':=by
 obtain⟨i0,hi,hz,hs,hby⟩:=str5
 have Hi:=yh hi
 have Hz:=yh hz
 have Hs:=yh hs
 have Hby:=yh hby
 have MB:Hid (∀W,Calls Tryz.prog 112 #[.agg r.cells.toArray] W fun e w'=>e=.returned (.bool true)∧Below W.heap.size W w'):=fun W=>by have:=yd8 r W;rw[h]at this;exact this
 have LK:=yh (fun W (hW:Tab W)=>yi5 r hp hh W hW h)
 have RT:=yh (fun W=>ycs r W h)
 have HTab:=yh hT
 have Hp:=yh hT.pos
 have HL:=yh (Rp.yao hp hh)
 have Hrow0:=yh (Row.new w 64 r.cells)
 have HP:=yh hp
 have HH:=yh hh
 have HB32:=yh (Tx.yap _ hh)
 have BT:Hid (∀(W:World) (g:Nat) (T:TypeId),Row W g T r.cells→W.rangeAt g 4 (bRow r.prev).toList∧W.rangeAt g 36 (bRow r.hash).toList):=fun W g T h=>⟨yla hp h,ypt hp h⟩
 have heqs :∀W,(Op.equalIn 10000 62 (.agg (bRow r.hash)) (.agg (bRow r.link))).run Tryz.prog W=.ok false W:=fun W=>(yei W _ _ hh (Rp.ybf r)).trans (by rw[decide_eq_false hl])
 have hff:r.texts.map S ++ [S r.prev,S r.hash]=r.fields.map S:=by unfold Rp.fields;rw[List.map_append];rfl
 have Hff:=yh hff
 have Hfl:Hid (5+1=r.fields.length):=(rfl:5+1=r.fields.length)
 generalize r.link=K at *
 generalize r.texts.map S=NS at *
 generalize r.fields=L at *
 generalize r.cells=C at *
 clear hi hz hs hby h hff hp hh hT hl
 have hu:=Tryz.underlying64
 have hi48:(Tryz.prog.info? 64).map (·.size)=some C.length:=by rw[yaf,HL.out]
 have hu23:=Tryz.underlying62
 have hi23:(Tryz.prog.info? 62).map (·.size)=some (bRow r.hash).toList.length:=by rw[yas,HB32.out]
 go_enter Tryz.func94,Tryz.ntmps94
 go_wp2_with (with_reducible show wpList _ _ _ (⟨_,.load 64 _,_,_,_,_⟩::_) _ _;refine yac rfl 64 (.tmp 1) rfl w.heap.size 0 rfl C _ (yah Hrow0.out) Tryz.underlying64 rfl (by rw[yaf,HL.out]) ?_)
 refine(MB.out _).mono ?_
 rintro _ w1 ⟨rfl,hb1⟩
 have HS0:=yh ((ye9 hb1).drew)
 clear hb1
 go_wp2_with fail
 refine wp_region_held_drew (S:=fun w'=>RowIn w w' w.heap.size 64 C) (by kernel_rfl) (HS0.out) (fun gH=>?_)
 generalize w1.drew=w9 at *
 refine yg 0 (.pointer (some ⟨w.heap.size,36,none⟩)) rfl gH ?_
 simp only[Act.put,Ya,Yb,Yc,Yd,Ye,Yf]
 refine' yl 1 _ rfl (yieldsIf_load_mid (by rfl) _ _ rfl w.heap.size 36 rfl (bRow r.hash).toList _ (fun w' hSw=>(BT.out _ _ _ hSw.1).2) hu23 rfl hi23) gH ?_
 refine' yl 2 _ rfl (yieldsIf_load_mid (by rfl) _ _ rfl w.heap.size 0 rfl C _ (fun w' hSw=>(yah hSw.1)) hu rfl hi48) gH ?_
 refine yR 3 (by kernel_rfl) rfl (fun K1 hK1=>?_)
 try simp only[Act.put,Ya,Yb,Yc,Yd,Ye,Yf]
 go_simp
 refine Calls.mono (LK.out _ (HTab.out.below gH.2 Hp.out)) ?_
 rintro e wc1 ⟨rfl,hc2⟩
 refine hK1.out _ _ (gH.step hc2) (fun gH=>?_)
 clear hK1 K1
 refine yg 4 (.bool true) rfl gH ?_
 refine wpAnyH_done (by kernel_rfl) ?_ _
 have Hbe:=yh gH.2
 clear gH hu hi48 heqs hu23 hi23
 go_wp2_with fail
 go_ret2
 exact⟨rfl,Hbe.out⟩
theorem ygb (r:Rp)(w:World)(hT:Tab w)(hp:r.prev.length=32)(hh:r.hash.length=32)(h:r.ok=true)(hl:r.hash=r.link):
 Calls Tryz.prog 94 #[.agg r.cells.toArray] w fun e w'=>e=.returned (.tuple #[S (Oct.listE r.fields).1,.int .i64 (Oct.listE r.fields).2])∧Below w.heap.size w w':=by
 obtain⟨i0,hi,hz,hs,hby⟩:=str5
 have Hi:=yh hi
 have Hz:=yh hz
 have Hs:=yh hs
 have Hby:=yh hby
 have MB:Hid (∀W,Calls Tryz.prog 112 #[.agg r.cells.toArray] W fun e w'=>e=.returned (.bool true)∧Below W.heap.size W w'):=fun W=>by have:=yd8 r W;rw[h]at this;exact this
 have LK:=yh (fun W (hW:Tab W)=>yi5 r hp hh W hW h)
 have RT:=yh (fun W=>ycs r W h)
 have HTab:=yh hT
 have Hp:=yh hT.pos
 have HL:=yh (Rp.yao hp hh)
 have Hrow0:=yh (Row.new w 64 r.cells)
 have HP:=yh hp
 have HH:=yh hh
 have HB32:=yh (Tx.yap _ hh)
 have BT:Hid (∀(W:World) (g:Nat) (T:TypeId),Row W g T r.cells→W.rangeAt g 4 (bRow r.prev).toList∧W.rangeAt g 36 (bRow r.hash).toList):=fun W g T h=>⟨yla hp h,ypt hp h⟩
 have heqs :∀W,(Op.equalIn 10000 62 (.agg (bRow r.hash)) (.agg (bRow r.link))).run Tryz.prog W=.ok true W:=fun W=>(yei W _ _ hh (Rp.ybf r)).trans (by rw[decide_eq_true hl])
 have hff:r.texts.map S ++ [S r.prev,S r.hash]=r.fields.map S:=by unfold Rp.fields;rw[List.map_append];rfl
 have Hff:=yh hff
 have Hfl:Hid (5+1=r.fields.length):=(rfl:5+1=r.fields.length)
 generalize r.link=K at *
 generalize r.texts.map S=NS at *
 generalize r.fields=L at *
 generalize r.cells=C at *
 clear hi hz hs hby h hff hp hh hT hl
 have hu:=Tryz.underlying64
 have hi48:(Tryz.prog.info? 64).map (·.size)=some C.length:=by rw[yaf,HL.out]
 have hu23:=Tryz.underlying62
 have hi23:(Tryz.prog.info? 62).map (·.size)=some (bRow r.hash).toList.length:=by rw[yas,HB32.out]
 go_enter Tryz.func94,Tryz.ntmps94
 go_wp2_with (with_reducible show wpList _ _ _ (⟨_,.load 64 _,_,_,_,_⟩::_) _ _;refine yac rfl 64 (.tmp 1) rfl w.heap.size 0 rfl C _ (yah Hrow0.out) Tryz.underlying64 rfl (by rw[yaf,HL.out]) ?_)
 refine(MB.out _).mono ?_
 rintro _ w1 ⟨rfl,hb1⟩
 have HS0:=yh ((ye9 hb1).drew)
 clear hb1
 go_wp2_with fail
 refine wp_region_held_drew (S:=fun w'=>RowIn w w' w.heap.size 64 C) (by kernel_rfl) (HS0.out) (fun gH=>?_)
 generalize w1.drew=w9 at *
 refine yg 0 (.pointer (some ⟨w.heap.size,36,none⟩)) rfl gH ?_
 simp only[Act.put,Ya,Yb,Yc,Yd,Ye,Yf]
 refine' yl 1 _ rfl (yieldsIf_load_mid (by rfl) _ _ rfl w.heap.size 36 rfl (bRow r.hash).toList _ (fun w' hSw=>(BT.out _ _ _ hSw.1).2) hu23 rfl hi23) gH ?_
 refine' yl 2 _ rfl (yieldsIf_load_mid (by rfl) _ _ rfl w.heap.size 0 rfl C _ (fun w' hSw=>(yah hSw.1)) hu rfl hi48) gH ?_
 refine yR 3 (by kernel_rfl) rfl (fun K1 hK1=>?_)
 try simp only[Act.put,Ya,Yb,Yc,Yd,Ye,Yf]
 go_simp
 refine Calls.mono (LK.out _ (HTab.out.below gH.2 Hp.out)) ?_
 rintro e wc1 ⟨rfl,hc2⟩
 refine hK1.out _ _ (gH.step hc2) (fun gH=>?_)
 clear hK1 K1
 refine yg 4 (.bool false) rfl gH ?_
 refine wpAnyH_done (by kernel_rfl) ?_ _
 have HS1:=yh gH.drew
 clear gH heqs hu23 hi23
 go_wp2_with fail
 refine wp_region_noPanic ?_
 refine wp_region_held_drew (S:=fun w'=>RowIn w w' w.heap.size 64 C) (by kernel_rfl) (HS1.out) (fun gH=>?_)
 generalize wc1.drew=wq at *
 refine' yl 0 _ rfl (yieldsIf_load_mid (by rfl) _ _ rfl w.heap.size 0 rfl C _ (fun w' hSw=>(yah hSw.1)) hu rfl hi48) gH ?_
 simp only[Act.put,Ya,Yb,Yc,Yd,Ye,Yf]
 refine yg 2 (.pointer (some ⟨w.heap.size,4,none⟩)) rfl gH ?_
 refine yg 3 (.slice (some ⟨w.heap.size,4,none⟩) 32 32) rfl gH ?_
 refine yk 4 (S r.prev) rfl (fun w' hSw=>by have hq:=hSw;have hc:=yki w' w.heap.size 4 r.prev HP.out (BT.out w' _ _ hq.1).1;go_simp) gH ?_
 simp only[Act.put,Ya,Yb,Yc,Yd,Ye,Yf]
 refine yg 5 (.pointer (some ⟨w.heap.size,36,none⟩)) rfl gH ?_
 refine yg 6 (.slice (some ⟨w.heap.size,36,none⟩) 32 32) rfl gH ?_
 refine yk 7 (S r.hash) rfl (fun w' hSw=>by have hq:=hSw;have hc:=yki w' w.heap.size 36 r.hash HH.out (BT.out w' _ _ hq.1).2;go_simp) gH ?_
 simp only[Act.put,Ya,Yb,Yc,Yd,Ye,Yf]
 refine yS 1 8 (by kernel_rfl) rfl rfl (fun K1 hK1=>?_) (fun K1 hK1=>?_)
 · skip
   try simp only[Act.put,Ya,Yb,Yc,Yd,Ye,Yf]
   go_simp
   refine Calls.mono (RT.out _) ?_
   rintro e wn1 ⟨vN,rfl,hown,hn2⟩
   have hown:=hown.mono gH.size
   refine hK1.out _ _ (gH.step hn2) (fun gH=>?_)
   clear hK1 K1
   refine yR 8 (by kernel_rfl) rfl (fun K1 hK1=>?_)
   try simp only[Act.put,Ya,Yb,Yc,Yd,Ye,Yf]
   go_simp
   have hd4:=(Below.refl wn1.heap.size wn1).alloc (Nat.le_refl _) (.cells #[S r.prev,S r.hash] 9)
   have r2:Row (wn1.alloc (.cells #[S r.prev,S r.hash] 9)) wn1.heap.size 9 ([S r.prev,S r.hash]):=Row.new wn1 9 ([S r.prev,S r.hash])
   have hown:=yb8 hown hd4
   have eH:=gH.step hd4
   generalize wn1.alloc (.cells #[S r.prev,S r.hash] 9)=wb3 at *
   obtain⟨gb5,gb5e⟩ :∃gb5,gb5=wn1.heap.size:=⟨_,rfl⟩
   rw[←gb5e]at r2 ⊢
   refine hK1.out _ _ eH (fun gH=>?_)
   clear hK1 K1
   clear eH gb5e
   refine yR 9 (by kernel_rfl) rfl (fun K1 hK1=>?_)
   try simp only[Act.put,Ya,Yb,Yc,Yd,Ye,Yf]
   rw[if_pos (by rfl)]
   refine wp_append_own_wide wb3 _ _ 56 rfl w.heap.size 9 i0 (.string ByteArray.empty) 1 16 Tryz.underlying56 Hi.out Hz.out Hs.out Hby.out rfl (by decide) vN 4 NS rfl hown ⟨gb5,0,none⟩ 2 2 [S r.prev,S r.hash] rfl rfl (yeu r2) (by intro u hu;simp at hu;first|(subst hu;rfl)|(rcases hu with rfl|rfl <;> rfl)) (by unfold maxLen;omega) (by omega) gH.size fun vP wp6 hownP hgrow _=>?_
   have eH:=yd1 gH (by decide) hown (Nat.le_refl _) hgrow
   clear hown r2 hgrow
   refine hK1.out _ _ eH (fun gH=>?_)
   clear hK1 K1
   refine yR 10 (by kernel_rfl) rfl (fun K1 hK1=>?_)
   try simp only[Act.put,Ya,Yb,Yc,Yd,Ye,Yf]
   go_simp
   refine Calls.mono (yfe L Hff.out hownP Hfl.out) ?_
   rintro e wl7 ⟨rfl,hl8⟩
   refine hK1.out _ _ (gH.step hl8) (fun gH=>?_)
   clear hK1 K1
   refine yg 11 (S (Oct.listE L).1) rfl gH ?_
   refine yg 12 (.int .i64 (Oct.listE L).2) rfl gH ?_
   simp only[Act.put,Ya,Yb,Yc,Yd,Ye,Yf]
   refine yg 13 (S (Oct.listE L).1) rfl gH ?_
   refine yg 14 (.int .i64 (Oct.listE L).2) rfl gH ?_
   refine wpAnyH_done (by kernel_rfl) ?_ _
   refine NoPanic.normal ?_
   have Hbe:=yh gH.2
   clear gH hu hi48
   go_wp2_with fail
   go_ret2
   exact⟨rfl,Hbe.out⟩
 · skip
   try simp only[Act.put,Ya,Yb,Yc,Yd,Ye,Yf]
   go_simp
   have hd10:=(Below.refl wq.heap.size wq).alloc (Nat.le_refl _) (.cells #[S r.prev,S r.hash] 9)
   have r2:Row (wq.alloc (.cells #[S r.prev,S r.hash] 9)) wq.heap.size 9 ([S r.prev,S r.hash]):=Row.new wq 9 ([S r.prev,S r.hash])
   have eH:=gH.step hd10
   generalize wq.alloc (.cells #[S r.prev,S r.hash] 9)=wb9 at *
   obtain⟨gb11,gb11e⟩ :∃gb11,gb11=wq.heap.size:=⟨_,rfl⟩
   rw[←gb11e]at r2 ⊢
   refine hK1.out _ _ eH (fun gH=>?_)
   clear hK1 K1
   clear eH gb11e
   refine yR 1 (by kernel_rfl) rfl (fun K1 hK1=>?_)
   try simp only[Act.put,Ya,Yb,Yc,Yd,Ye,Yf]
   go_simp
   refine Calls.mono (RT.out _) ?_
   rintro e wn12 ⟨vN,rfl,hown,hn13⟩
   have hown:=hown.mono gH.size
   have r2:=r2.kept (yae hn13 none) (by simp)
   refine hK1.out _ _ (gH.step hn13) (fun gH=>?_)
   clear hK1 K1
   refine yR 9 (by kernel_rfl) rfl (fun K1 hK1=>?_)
   try simp only[Act.put,Ya,Yb,Yc,Yd,Ye,Yf]
   rw[if_pos (by rfl)]
   refine wp_append_own_wide wn12 _ _ 56 rfl w.heap.size 9 i0 (.string ByteArray.empty) 1 16 Tryz.underlying56 Hi.out Hz.out Hs.out Hby.out rfl (by decide) vN 4 NS rfl hown ⟨gb11,0,none⟩ 2 2 [S r.prev,S r.hash] rfl rfl (yeu r2) (by intro u hu;simp at hu;first|(subst hu;rfl)|(rcases hu with rfl|rfl <;> rfl)) (by unfold maxLen;omega) (by omega) gH.size fun vP wp14 hownP hgrow _=>?_
   have eH:=yd1 gH (by decide) hown (Nat.le_refl _) hgrow
   clear hown r2 hgrow
   refine hK1.out _ _ eH (fun gH=>?_)
   clear hK1 K1
   refine yR 10 (by kernel_rfl) rfl (fun K1 hK1=>?_)
   try simp only[Act.put,Ya,Yb,Yc,Yd,Ye,Yf]
   go_simp
   refine Calls.mono (yfe L Hff.out hownP Hfl.out) ?_
   rintro e wl15 ⟨rfl,hl16⟩
   refine hK1.out _ _ (gH.step hl16) (fun gH=>?_)
   clear hK1 K1
   refine yg 11 (S (Oct.listE L).1) rfl gH ?_
   refine yg 12 (.int .i64 (Oct.listE L).2) rfl gH ?_
   simp only[Act.put,Ya,Yb,Yc,Yd,Ye,Yf]
   refine yg 13 (S (Oct.listE L).1) rfl gH ?_
   refine yg 14 (.int .i64 (Oct.listE L).2) rfl gH ?_
   refine wpAnyH_done (by kernel_rfl) ?_ _
   refine NoPanic.normal ?_
   have Hbe:=yh gH.2
   clear gH hu hi48
   go_wp2_with fail
   go_ret2
   exact⟨rfl,Hbe.out⟩
theorem yfp (r:Rp)(hp:r.prev.length=32)(hh:r.hash.length=32)(w:World)(hT:Tab w):
 Calls Tryz.prog 94 #[r.v] w fun e w'=>e=.returned (two r.textE.1 r.textE.2)∧Below w.heap.size w w':=by
 unfold Rp.textE
 rcases Bool.eq_false_or_eq_true r.ok with h|h
 · rw[if_pos h]
   by_cases hl:r.hash=r.link
   · rw[if_pos hl];exact ygb r w hT hp hh h hl
   · rw[if_neg hl];exact yga r w hT hp hh h hl
 · rw[if_neg (by rw[h];simp)];exact yf9 r w hp hh h
end
section
open Go.RowKit
theorem ybg {P:Program}{ops:Array Oper}{S:World→Prop}{op:Oper}{a:Act}(hw:Region.wanted op (yielded ops a.tmps)=true)(t:TypeId)(parts:List (Nat×Operand))(ho:op.op=.build t parts.toArray)
 (vs:List (Nat×Value)) (hv:parts.map (fun p=>(p.1,a.eval p.2))=vs) (cells:Array Value) (hf:P.built t vs=some cells):YieldsIf P ops S op (.agg cells) a:=
 .inl ⟨hw,fun w _=>by
  have e:(parts.toArray.map fun (i,x)=>(i,a.eval x)).toList=vs:=by rw[←hv];simp
  have h2:P.built t ((parts.toArray.map fun (i,x)=>(i,a.eval x)).toList)=some cells:=by rw[e];exact hf
  unfold execOp
  simp only[ho,Sem.run_bind,run_build w t _ cells h2,Result.andThen_ok,Sem.run_pure]⟩
theorem yar {P:Program}{op:Oper}{a:Act}{w:World}{K:Act→World→Prop}{Q:Exit→Act→World→Prop}(ty:TypeId)(x y:Operand)(ho:op.op=.store ty x y)
 (g off:Nat) (l xs:List Value) (T:TypeId) (hx:a.eval x=.pointer (some ⟨g,off,none⟩)) (hy:a.eval y=.agg l.toArray) (hg:Row w g T xs) (hoff:off+l.length≤xs.length)
 (hi:(P.info? ty).map (·.size)=some l.length) (h1 :∀v∈l,v.oneCell'=true)
 (h :∀w',Row w' g T (xs.take off++(l++xs.drop (off+l.length)))→w.grownBy w' (some g)→K (a.put op.dst undef) w'):op.wp P a w K Q:=by
 obtain⟨r1,r2⟩:=yb3 l off w xs hg hoff
 exact wp_store_mid ty x y ho g off l.toArray hx hy (fun j hj=>⟨by
  have hj':j<l.length:=by simpa using hj
  rw[hg.cell (off+j) (by omega)];rfl,hg.free _⟩) (by simpa using hi) (all_oneCell_toArray h1) (h _ r1 r2)
end
section
open Go.RowKit
theorem yty (a b c:Int)(s:ByteArray)(R Q:List UInt8)(hR:R.length=32)(hQ:Q.length=32):
 Tryz.prog.built 64 [(0,.int .i64 a),(1,.int .i64 b),(2,.int .i64 c),(3,.string s),(4,.agg (bRow R)),(5,.agg (bRow Q))]=some (Rp.cells ⟨a,b,c,s,R,Q⟩).toArray:=by
 have hr:=Tx.yap R hR
 have hq:=Tx.yap Q hQ
 have hL:=Rp.yao (r:=Rp.zero) rfl rfl
 have h5:=ypu a b c s R hR
 have hY:=Rp.yao (r:=⟨a,b,c,s,R,Tx.zero⟩) hR rfl
 have hput:=Rp.ymo (r:=⟨a,b,c,s,R,Tx.zero⟩) hR rfl Q hQ
 rw[hq]at hput
 generalize Rp.cells ⟨a,b,c,s,R,Tx.zero⟩=Y at *
 have p0:((#[(0,1),(1,1),(2,1),(3,1),(4,32),(36,32)]:Array (Nat×Nat))[0]?)=some (0,1):=rfl
 rw[yml]at h5 ⊢
 rw[ya4 _ _ 0 _ [.int .i64 a] _ 0 1 rfl rfl rfl (by rw[hL];omega)]at h5 ⊢
 rw[ya4 _ _ 1 _ [.int .i64 b] _ 1 1 rfl rfl rfl (by simp only[List.length_append,List.length_take,List.length_drop,List.length_cons,List.length_nil,hL];omega)]at h5 ⊢
 rw[ya4 _ _ 2 _ [.int .i64 c] _ 2 1 rfl rfl rfl (by simp only[List.length_append,List.length_take,List.length_drop,List.length_cons,List.length_nil,hL];omega)]at h5 ⊢
 rw[ya4 _ _ 3 _ [.string s] _ 3 1 rfl rfl rfl (by simp only[List.length_append,List.length_take,List.length_drop,List.length_cons,List.length_nil,hL];omega)]at h5 ⊢
 rw[ya4 _ _ 4 _ (bRow R).toList _ 4 32 rfl (by simp[Value.cells]) hr (by simp only[List.length_append,List.length_take,List.length_drop,List.length_cons,List.length_nil,hL];omega)]at h5 ⊢
 rw[ydt]at h5
 rw[Option.some.inj h5]
 rw[ya4 _ _ 5 _ (bRow Q).toList _ 36 32 rfl (by simp[Value.cells]) hq (by rw[hY];omega),ydt,hput]
def LinkIn (w0 W:World)(p:List UInt8):Prop:=Below w0.heap.size w0 W∧Row W w0.heap.size 62 (bRow p).toList∧∃Z:List Value,Z.length=68∧Row W (w0.heap.size+1) 64 Z
theorem LinkIn.step {w0 W W':World}{p:List UInt8}(h:LinkIn w0 W p)(hb:Below W.heap.size W W'):LinkIn w0 W' p:=by
 obtain⟨h1,h2,Z,h3,h4⟩:=h
 have hg:=yae hb none
 exact⟨yaa h1 hb,h2.kept hg (by simp),Z,h3,h4.kept hg (by simp)⟩
theorem LinkIn.put {w0 W W':World}{p:List UInt8}{Z:List Value}(h:LinkIn w0 W p)(hg:W.grownBy W' (some (w0.heap.size+1)))(hZ:Z.length=68)(hr:Row W' (w0.heap.size+1) 64 Z):LinkIn w0 W' p:=
 ⟨h.1.grown hg h.1.size (fun k hk=>by cases hk;omega),h.2.1.kept hg (by simp),Z,hZ,hr⟩
theorem yp3 (a k n:Int)(body:ByteArray)(p:List UInt8)(hp:p.length=32)(w:World)(b1:(decide (0≤a)&&decide (a≤1099511627776))=false):
 Calls Tryz.prog 70 #[.agg (bRow p),.int .i64 a,.int .i64 k,.int .i64 n,.string body] w fun e w'=>e=.returned (.tuple #[.agg Rp.zero.cells.toArray,.int .i64 2])∧Below w.heap.size w w':=by
 have HZL:=yh (Rp.yao (r:=Rp.zero) rfl rfl)
 have HZ1:=yh (Rp.yan (r:=Rp.zero) rfl rfl)
 have hzv :∀W:World,(zeroValue 64).run Tryz.prog W=.ok (.agg Rp.zero.cells.toArray) W:=fun W=>by kernel_rfl
 have N1:=yh (ybq a 1099511627776 _ b1)
 clear b1
 have H2:=yh (ycg w (bRow p) Rp.zero.cells.toArray 62 64)
 have Hr2:Hid (Row ((w.alloc (.cells (bRow p) 62)).alloc (.cells Rp.zero.cells.toArray 64)) (w.heap.size+1) 64 Rp.zero.cells):=yh H2.out.1
 go_enter Tryz.func70,Tryz.ntmps70
 go_wp2_with fail
 refine(N1.out _).mono ?_
 rintro _ w1 ⟨rfl,rfl⟩
 have HRn:Hid (Rp.zero=Rp.zero):=yh rfl
 clear hzv
 go_wp2_with (first
  | (with_reducible show wpList _ _ _ (⟨_,.build 64 _,_,_,_,_⟩::_) _ _;refine yak rfl 64 [] rfl (some 35) rfl _ rfl _ Rp.yaz ?_)
  | (with_reducible show wpList _ _ _ (⟨_, .store 64 _ _, _, _, _, _⟩ :: _) _ _
     refine yab rfl 64 (.tmp 10) (.tmp 35) rfl (w.heap.size+1) 0 Rp.zero.cells _ _ rfl rfl Hr2.out (by have:=HZL.out;omega) (by rw[yaf,HZL.out]) HZ1.out ?_
     intro wZ hrZ hgZ
     rw[yad rfl]at hrZ
     have HrZ:=yh hrZ
     have HbZ:=yh (below_own H2.out.2.1 hgZ (fun k hk=>by cases hk;omega))
     clear hrZ hgZ))
 refine bodyPost_ret (yaj rfl _ _ (w.heap.size+1) 64 _ _ rfl HrZ.out Tryz.underlying64 rfl (by rw[yaf,List.size_toArray,HZL.out]) _ rfl) rfl ⟨?_,HbZ.out⟩
 exact rfl
theorem yp2 (a k n:Int)(body:ByteArray)(p:List UInt8)(hp:p.length=32)(w:World)(b1:(decide (0≤a)&&decide (a≤1099511627776))=true)(b2:(decide (0≤n)&&decide (n≤1099511627776))=false):
 Calls Tryz.prog 70 #[.agg (bRow p),.int .i64 a,.int .i64 k,.int .i64 n,.string body] w fun e w'=>e=.returned (.tuple #[.agg Rp.zero.cells.toArray,.int .i64 2])∧Below w.heap.size w w':=by
 have HZL:=yh (Rp.yao (r:=Rp.zero) rfl rfl)
 have HZ1:=yh (Rp.yan (r:=Rp.zero) rfl rfl)
 have hzv :∀W:World,(zeroValue 64).run Tryz.prog W=.ok (.agg Rp.zero.cells.toArray) W:=fun W=>by kernel_rfl
 have N1:=yh (ybq a 1099511627776 _ b1)
 have N2:=yh (ybq n 1099511627776 _ b2)
 clear b1 b2
 have H2:=yh (ycg w (bRow p) Rp.zero.cells.toArray 62 64)
 have Hr2:Hid (Row ((w.alloc (.cells (bRow p) 62)).alloc (.cells Rp.zero.cells.toArray 64)) (w.heap.size+1) 64 Rp.zero.cells):=yh H2.out.1
 go_enter Tryz.func70,Tryz.ntmps70
 go_wp2_with fail
 refine(N1.out _).mono ?_
 rintro _ w1 ⟨rfl,rfl⟩
 go_wp2_with fail
 refine(N2.out _).mono ?_
 rintro _ w1 ⟨rfl,rfl⟩
 have HRn:Hid (Rp.zero=Rp.zero):=yh rfl
 clear hzv
 go_wp2_with (first
  | (with_reducible show wpList _ _ _ (⟨_,.build 64 _,_,_,_,_⟩::_) _ _;refine yak rfl 64 [] rfl (some 35) rfl _ rfl _ Rp.yaz ?_)
  | (with_reducible show wpList _ _ _ (⟨_, .store 64 _ _, _, _, _, _⟩ :: _) _ _
     refine yab rfl 64 (.tmp 10) (.tmp 35) rfl (w.heap.size+1) 0 Rp.zero.cells _ _ rfl rfl Hr2.out (by have:=HZL.out;omega) (by rw[yaf,HZL.out]) HZ1.out ?_
     intro wZ hrZ hgZ
     rw[yad rfl]at hrZ
     have HrZ:=yh hrZ
     have HbZ:=yh (below_own H2.out.2.1 hgZ (fun k hk=>by cases hk;omega))
     clear hrZ hgZ))
 refine bodyPost_ret (yaj rfl _ _ (w.heap.size+1) 64 _ _ rfl HrZ.out Tryz.underlying64 rfl (by rw[yaf,List.size_toArray,HZL.out]) _ rfl) rfl ⟨?_,HbZ.out⟩
 exact rfl
theorem yp1 (a k n:Int)(body:ByteArray)(p:List UInt8)(hp:p.length=32)(w:World)(b1:(decide (0≤a)&&decide (a≤1099511627776))=true)(b2:(decide (0≤n)&&decide (n≤1099511627776))=true)(k1:(k != 1)=true)(k2:(k != 2)=true):
 Calls Tryz.prog 70 #[.agg (bRow p),.int .i64 a,.int .i64 k,.int .i64 n,.string body] w fun e w'=>e=.returned (.tuple #[.agg Rp.zero.cells.toArray,.int .i64 2])∧Below w.heap.size w w':=by
 have HZL:=yh (Rp.yao (r:=Rp.zero) rfl rfl)
 have HZ1:=yh (Rp.yan (r:=Rp.zero) rfl rfl)
 have hzv :∀W:World,(zeroValue 64).run Tryz.prog W=.ok (.agg Rp.zero.cells.toArray) W:=fun W=>by kernel_rfl
 have N1:=yh (ybq a 1099511627776 _ b1)
 have N2:=yh (ybq n 1099511627776 _ b2)
 clear b1 b2
 have H2:=yh (ycg w (bRow p) Rp.zero.cells.toArray 62 64)
 have Hr2:Hid (Row ((w.alloc (.cells (bRow p) 62)).alloc (.cells Rp.zero.cells.toArray 64)) (w.heap.size+1) 64 Rp.zero.cells):=yh H2.out.1
 go_enter Tryz.func70,Tryz.ntmps70
 go_wp2_with fail
 refine(N1.out _).mono ?_
 rintro _ w1 ⟨rfl,rfl⟩
 go_wp2_with fail
 refine(N2.out _).mono ?_
 rintro _ w1 ⟨rfl,rfl⟩
 have HRn:Hid (Rp.zero=Rp.zero):=yh rfl
 clear hzv
 go_wp2_with (first
  | (with_reducible show wpList _ _ _ (⟨_,.build 64 _,_,_,_,_⟩::_) _ _;refine yak rfl 64 [] rfl (some 35) rfl _ rfl _ Rp.yaz ?_)
  | (with_reducible show wpList _ _ _ (⟨_, .store 64 _ _, _, _, _, _⟩ :: _) _ _
     refine yab rfl 64 (.tmp 10) (.tmp 35) rfl (w.heap.size+1) 0 Rp.zero.cells _ _ rfl rfl Hr2.out (by have:=HZL.out;omega) (by rw[yaf,HZL.out]) HZ1.out ?_
     intro wZ hrZ hgZ
     rw[yad rfl]at hrZ
     have HrZ:=yh hrZ
     have HbZ:=yh (below_own H2.out.2.1 hgZ (fun k hk=>by cases hk;omega))
     clear hrZ hgZ))
 refine bodyPost_ret (yaj rfl _ _ (w.heap.size+1) 64 _ _ rfl HrZ.out Tryz.underlying64 rfl (by rw[yaf,List.size_toArray,HZL.out]) _ rfl) rfl ⟨?_,HbZ.out⟩
 exact rfl
theorem yp0 (a k n:Int)(body:ByteArray)(p:List UInt8)(hp:p.length=32)(w:World)(b1:(decide (0≤a)&&decide (a≤1099511627776))=true)(b2:(decide (0≤n)&&decide (n≤1099511627776))=true)(k1:(k != 1)=false)(s0:((656:Int)<(body.size:Int))):
 Calls Tryz.prog 70 #[.agg (bRow p),.int .i64 a,.int .i64 k,.int .i64 n,.string body] w fun e w'=>e=.returned (.tuple #[.agg Rp.zero.cells.toArray,.int .i64 2])∧Below w.heap.size w w':=by
 have HZL:=yh (Rp.yao (r:=Rp.zero) rfl rfl)
 have HZ1:=yh (Rp.yan (r:=Rp.zero) rfl rfl)
 have hzv :∀W:World,(zeroValue 64).run Tryz.prog W=.ok (.agg Rp.zero.cells.toArray) W:=fun W=>by kernel_rfl
 have N1:=yh (ybq a 1099511627776 _ b1)
 have N2:=yh (ybq n 1099511627776 _ b2)
 clear b1 b2
 have H2:=yh (ycg w (bRow p) Rp.zero.cells.toArray 62 64)
 have Hr2:Hid (Row ((w.alloc (.cells (bRow p) 62)).alloc (.cells Rp.zero.cells.toArray 64)) (w.heap.size+1) 64 Rp.zero.cells):=yh H2.out.1
 go_enter Tryz.func70,Tryz.ntmps70
 go_wp2_with fail
 refine(N1.out _).mono ?_
 rintro _ w1 ⟨rfl,rfl⟩
 go_wp2_with fail
 refine(N2.out _).mono ?_
 rintro _ w1 ⟨rfl,rfl⟩
 have HRn:Hid (Rp.zero=Rp.zero):=yh rfl
 clear hzv
 go_wp2_with (first
  | (with_reducible show wpList _ _ _ (⟨_,.build 64 _,_,_,_,_⟩::_) _ _;refine yak rfl 64 [] rfl (some 35) rfl _ rfl _ Rp.yaz ?_)
  | (with_reducible show wpList _ _ _ (⟨_, .store 64 _ _, _, _, _, _⟩ :: _) _ _
     refine yab rfl 64 (.tmp 10) (.tmp 35) rfl (w.heap.size+1) 0 Rp.zero.cells _ _ rfl rfl Hr2.out (by have:=HZL.out;omega) (by rw[yaf,HZL.out]) HZ1.out ?_
     intro wZ hrZ hgZ
     rw[yad rfl]at hrZ
     have HrZ:=yh hrZ
     have HbZ:=yh (below_own H2.out.2.1 hgZ (fun k hk=>by cases hk;omega))
     clear hrZ hgZ))
 refine bodyPost_ret (yaj rfl _ _ (w.heap.size+1) 64 _ _ rfl HrZ.out Tryz.underlying64 rfl (by rw[yaf,List.size_toArray,HZL.out]) _ rfl) rfl ⟨?_,HbZ.out⟩
 exact rfl
theorem ypz (a k n:Int)(body:ByteArray)(p:List UInt8)(hp:p.length=32)(w:World)(b1:(decide (0≤a)&&decide (a≤1099511627776))=true)(b2:(decide (0≤n)&&decide (n≤1099511627776))=true)(k1:(k != 1)=true)(k2:(k != 2)=false)(s0:((656:Int)<(body.size:Int))):
 Calls Tryz.prog 70 #[.agg (bRow p),.int .i64 a,.int .i64 k,.int .i64 n,.string body] w fun e w'=>e=.returned (.tuple #[.agg Rp.zero.cells.toArray,.int .i64 2])∧Below w.heap.size w w':=by
 have HZL:=yh (Rp.yao (r:=Rp.zero) rfl rfl)
 have HZ1:=yh (Rp.yan (r:=Rp.zero) rfl rfl)
 have hzv :∀W:World,(zeroValue 64).run Tryz.prog W=.ok (.agg Rp.zero.cells.toArray) W:=fun W=>by kernel_rfl
 have N1:=yh (ybq a 1099511627776 _ b1)
 have N2:=yh (ybq n 1099511627776 _ b2)
 clear b1 b2
 have H2:=yh (ycg w (bRow p) Rp.zero.cells.toArray 62 64)
 have Hr2:Hid (Row ((w.alloc (.cells (bRow p) 62)).alloc (.cells Rp.zero.cells.toArray 64)) (w.heap.size+1) 64 Rp.zero.cells):=yh H2.out.1
 go_enter Tryz.func70,Tryz.ntmps70
 go_wp2_with fail
 refine(N1.out _).mono ?_
 rintro _ w1 ⟨rfl,rfl⟩
 go_wp2_with fail
 refine(N2.out _).mono ?_
 rintro _ w1 ⟨rfl,rfl⟩
 have HRn:Hid (Rp.zero=Rp.zero):=yh rfl
 clear hzv
 go_wp2_with (first
  | (with_reducible show wpList _ _ _ (⟨_,.build 64 _,_,_,_,_⟩::_) _ _;refine yak rfl 64 [] rfl (some 35) rfl _ rfl _ Rp.yaz ?_)
  | (with_reducible show wpList _ _ _ (⟨_, .store 64 _ _, _, _, _, _⟩ :: _) _ _
     refine yab rfl 64 (.tmp 10) (.tmp 35) rfl (w.heap.size+1) 0 Rp.zero.cells _ _ rfl rfl Hr2.out (by have:=HZL.out;omega) (by rw[yaf,HZL.out]) HZ1.out ?_
     intro wZ hrZ hgZ
     rw[yad rfl]at hrZ
     have HrZ:=yh hrZ
     have HbZ:=yh (below_own H2.out.2.1 hgZ (fun k hk=>by cases hk;omega))
     clear hrZ hgZ))
 refine bodyPost_ret (yaj rfl _ _ (w.heap.size+1) 64 _ _ rfl HrZ.out Tryz.underlying64 rfl (by rw[yaf,List.size_toArray,HZL.out]) _ rfl) rfl ⟨?_,HbZ.out⟩
 exact rfl
theorem ypy (hRS:RefSum)(a k n:Int)(body:ByteArray)(p:List UInt8)(hp:p.length=32)(w:World)(b1:(decide (0≤a)&&decide (a≤1099511627776))=true)(b2:(decide (0≤n)&&decide (n≤1099511627776))=true)(k1:(k != 1)=false)(s0 :¬((656:Int)<(body.size:Int))):
 Calls Tryz.prog 70 #[.agg (bRow p),.int .i64 a,.int .i64 k,.int .i64 n,.string body] w fun e w'=>e=.returned (.tuple #[.agg (Rp.linked ⟨a,k,n,body,p,Tx.zero⟩).cells.toArray,.int .i64 0])∧Below w.heap.size w w':=by
 have HZL:=yh (Rp.yao (r:=Rp.zero) rfl rfl)
 have HZ1:=yh (Rp.yan (r:=Rp.zero) rfl rfl)
 have hzv :∀W:World,(zeroValue 64).run Tryz.prog W=.ok (.agg Rp.zero.cells.toArray) W:=fun W=>by kernel_rfl
 have N1:=yh (ybq a 1099511627776 _ b1)
 have N2:=yh (ybq n 1099511627776 _ b2)
 obtain⟨r,hr⟩ :∃r:Rp,r=⟨a,k,n,body,p,Tx.zero⟩:=⟨_,rfl⟩
 have hbu:=yty a k n body p r.link hp (Rp.ybf r)
 have hD:Rp.cells ⟨a,k,n,body,p,r.link⟩=r.linked.cells:=by rw[hr];rfl
 rw[hD]at hbu
 have hln:p.length=32∧r.link.length=32:=⟨hp,Rp.ybf r⟩
 have hbl:=yc3 r.texts
 have hlk:Sha.sum (p++(Oct.listE r.texts).1)=r.link:=by rw[hr];rfl
 have CH:Hid (∀W,Calls Tryz.prog 101 #[.agg (bRow p),S (Oct.listE r.texts).1] W fun e w'=>e=.returned (.agg (bRow r.link))∧Below W.heap.size W w'):=fun W=>by
  have:=yfi hRS p ⟨(Oct.listE r.texts).1.toArray⟩ W hp (by show (Oct.listE r.texts).1.length≤_;omega)
  rw[show (⟨(Oct.listE r.texts).1.toArray⟩:ByteArray).data.toList=(Oct.listE r.texts).1 from rfl,hlk]at this
  exact this
 have hc1:=b1
 have hc2:=b2
 simp at hc1 hc2
 have hkk:0≤k∧k≤2:=by simp at k1;omega
 have T0:=yh (fun W=>yde a W hc1.1 (by omega))
 have T1:=yh (fun W=>yde k W hkk.1 (by omega))
 have T2:=yh (fun W=>yde n W hc2.1 (by omega))
 have LB:Hid (∀(W:World) (g:Nat),Row W g 9 [S (Oct.num a.toNat),S (Oct.num k.toNat),S (Oct.num n.toNat),.string body]→Calls Tryz.prog 99 #[.slice (some ⟨g,0,none⟩) 4 4] W fun e w'=>e=.returned (.tuple #[S (Oct.listE r.texts).1,.int .i64 (Oct.listE r.texts).2])∧Below W.heap.size W w'):=fun W g h=>ykc r.texts h (by rw[hr];rfl) 4 4 (by rw[hr];rfl)
 have HDL:=yh (Rp.yao (r:=r.linked) (by rw[hr];exact hp) (Rp.ybf r))
 have HD1:=yh (Rp.yan (r:=r.linked) (by rw[hr];exact hp) (Rp.ybf r))
 have HPL:=yh (Tx.yap _ hp)
 have Hrow0:=yh (Row.new w 62 (bRow p).toList)
 have hq:(Rp.linkE ⟨a,k,n,body,p,Tx.zero⟩)=Rp.linkE r:=by rw[hr]
 show Calls _ _ _ _ _
 have hlc:(Rp.mk a k n body p Tx.zero).linked.cells=r.linked.cells:=by rw[hr]
 rw[hlc]
 generalize (Oct.listE r.texts).2=en at *
 generalize (Oct.listE r.texts).1=ts at *
 generalize r.linked.cells=D at *
 generalize r.link=K at *
 generalize Oct.num a.toNat=t0 at *
 generalize Oct.num k.toNat=t1 at *
 generalize Oct.num n.toNat=t2 at *
 clear b1 b2 hc1 hc2 hkk hr hD hln hbl hlk hq hlc hp hRS
 have H2:=yh (ycg w (bRow p) Rp.zero.cells.toArray 62 64)
 have Hbu:=yh hbu
 clear hbu
 go_enter Tryz.func70,Tryz.ntmps70
 go_wp2_with fail
 refine(N1.out _).mono ?_
 rintro _ w1 ⟨rfl,rfl⟩
 go_wp2_with fail
 refine(N2.out _).mono ?_
 rintro _ w1 ⟨rfl,rfl⟩
 go_wp2_with fail
 refine yau ?_
 intro w1 hw1
 have hb1:Below w.heap.size w w1:=by rw[hw1];exact H2.out.2.1
 have hr1:Row w1 (w.heap.size+1) 64 Rp.zero.cells:=by rw[hw1];exact H2.out.1
 have hh1:Row w1 w.heap.size 62 (bRow p).toList:=by rw[hw1];exact H2.out.2.2
 have HI1:Hid (LinkIn w w1 p):=⟨hb1,hh1,_,HZL.out,hr1⟩
 clear hw1 hb1 hr1 hh1 H2 hzv
 refine(T0.out _).mono ?_
 rintro _ w2 ⟨rfl,hb2⟩
 have HI2:=yh (HI1.out.step hb2)
 clear hb2
 go_wp2_with fail
 refine(T1.out _).mono ?_
 rintro _ w3 ⟨rfl,hb3⟩
 have HI3:=yh (HI2.out.step hb3)
 clear hb3
 go_wp2_with fail
 refine(T2.out _).mono ?_
 rintro _ w4 ⟨rfl,hb4⟩
 have HI4:=yh (HI3.out.step hb4)
 clear hb4
 go_wp2_with fail
 refine yau ?_
 intro w5 hw5
 have hr5:Row w5 w4.heap.size 9 [S t0,S t1,S t2,.string body]:=by rw[hw5];exact Row.new w4 9 [S t0,S t1,S t2,.string body]
 have HI5:Hid (LinkIn w w5 p):=by rw[hw5];exact HI4.out.step ((Below.refl _ _).alloc (Nat.le_refl _) _)
 clear hw5
 refine(LB.out w5 _ hr5).mono ?_
 rintro _ w6 ⟨rfl,hb6⟩
 have HS0:Hid (LinkIn w w6.drew p):=(HI5.out.step hb6).step (Below.refl _ _).drew
 have hu23:=Tryz.underlying62
 have hi23:(Tryz.prog.info? 62).map (·.size)=some (bRow p).toList.length:=by rw[yas,HPL.out]
 clear hb6 hr5
 go_wp2_with fail
 refine wp_region_held_drew (S:=fun w'=>LinkIn w w' p) (by kernel_rfl) (HS0.out) (fun gH=>?_)
 generalize w6.drew=w9 at *
 refine yg 0 (.int .i64 a) rfl gH ?_
 simp only[Act.put,Ya,Yb,Yc,Yd,Ye,Yf]
 refine yg 1 (.int .i64 k) rfl gH ?_
 refine yg 2 (.int .i64 n) rfl gH ?_
 refine yg 3 (.string body) rfl gH ?_
 simp only[Act.put,Ya,Yb,Yc,Yd,Ye,Yf]
 refine' yl 4 _ rfl (yieldsIf_load_mid (by rfl) _ _ rfl w.heap.size 0 rfl (bRow p).toList _ (fun w' hSw=>(yah hSw.2.1)) hu23 rfl hi23) gH ?_
 refine' yl 5 _ rfl (yieldsIf_load_mid (by rfl) _ _ rfl w.heap.size 0 rfl (bRow p).toList _ (fun w' hSw=>(yah hSw.2.1)) hu23 rfl hi23) gH ?_
 refine yg 6 (S ts) rfl gH ?_
 simp only[Act.put,Ya,Yb,Yc,Yd,Ye,Yf]
 refine yR 7 (by kernel_rfl) rfl (fun K1 hK1=>?_)
 try simp only[Act.put,Ya,Yb,Yc,Yd,Ye,Yf]
 go_simp
 refine Calls.mono (CH.out _) ?_
 rintro e wc1 ⟨rfl,hc2⟩
 refine hK1.out _ _ (gH.step hc2) (fun gH=>?_)
 clear hK1 K1
 refine' yl 8 (.agg D.toArray) rfl (ybg (by rfl) 64 [(0,.tmp 48),(1,.tmp 49),(2,.tmp 50),(3,.tmp 51),(4,.tmp 52),(5,.tmp 55)] rfl [(0,.int .i64 a),(1,.int .i64 k),(2,.int .i64 n),(3,.string body),(4,.agg (bRow p)),(5,.agg (bRow K))] rfl D.toArray Hbu.out) gH ?_
 refine yR 9 (by kernel_rfl) rfl (fun K1 hK1=>?_)
 try simp only[Act.put,Ya,Yb,Yc,Yd,Ye,Yf]
 obtain⟨Z,hZl,hZr⟩:=gH.2.2
 rw[if_pos (by rfl)]
 refine yar 64 (.tmp 10) (.tmp 56) rfl (w.heap.size+1) 0 D _ _ rfl rfl hZr (by have:=HDL.out;omega) (by rw[yaf,HDL.out]) HD1.out ?_
 intro ws3 hrS hgS
 rw[yad (HDL.out.trans hZl.symm)]at hrS
 have HrS:=yh hrS
 have eH:=gH.put hgS HDL.out hrS
 clear hrS hgS
 refine hK1.out _ _ eH (fun gH=>?_)
 clear hK1 K1
 clear eH
 refine yg 10 (.int .i64 0) rfl gH ?_
 refine wpAnyH_done (by kernel_rfl) ?_ _
 go_wp2_with fail
 have Hb9:=yh gH.1
 clear gH hu23 hi23
 refine bodyPost_ret (yaj rfl _ _ (w.heap.size+1) 64 _ _ rfl HrS.out Tryz.underlying64 rfl (by rw[yaf,List.size_toArray,HDL.out]) _ rfl) rfl ⟨rfl,Hb9.out⟩
theorem ypx (hRS:RefSum)(a k n:Int)(body:ByteArray)(p:List UInt8)(hp:p.length=32)(w:World)(b1:(decide (0≤a)&&decide (a≤1099511627776))=true)(b2:(decide (0≤n)&&decide (n≤1099511627776))=true)(k1:(k != 1)=true)(k2:(k != 2)=false)(s0 :¬((656:Int)<(body.size:Int))):
 Calls Tryz.prog 70 #[.agg (bRow p),.int .i64 a,.int .i64 k,.int .i64 n,.string body] w fun e w'=>e=.returned (.tuple #[.agg (Rp.linked ⟨a,k,n,body,p,Tx.zero⟩).cells.toArray,.int .i64 0])∧Below w.heap.size w w':=by
 have HZL:=yh (Rp.yao (r:=Rp.zero) rfl rfl)
 have HZ1:=yh (Rp.yan (r:=Rp.zero) rfl rfl)
 have hzv :∀W:World,(zeroValue 64).run Tryz.prog W=.ok (.agg Rp.zero.cells.toArray) W:=fun W=>by kernel_rfl
 have N1:=yh (ybq a 1099511627776 _ b1)
 have N2:=yh (ybq n 1099511627776 _ b2)
 obtain⟨r,hr⟩ :∃r:Rp,r=⟨a,k,n,body,p,Tx.zero⟩:=⟨_,rfl⟩
 have hbu:=yty a k n body p r.link hp (Rp.ybf r)
 have hD:Rp.cells ⟨a,k,n,body,p,r.link⟩=r.linked.cells:=by rw[hr];rfl
 rw[hD]at hbu
 have hln:p.length=32∧r.link.length=32:=⟨hp,Rp.ybf r⟩
 have hbl:=yc3 r.texts
 have hlk:Sha.sum (p++(Oct.listE r.texts).1)=r.link:=by rw[hr];rfl
 have CH:Hid (∀W,Calls Tryz.prog 101 #[.agg (bRow p),S (Oct.listE r.texts).1] W fun e w'=>e=.returned (.agg (bRow r.link))∧Below W.heap.size W w'):=fun W=>by
  have:=yfi hRS p ⟨(Oct.listE r.texts).1.toArray⟩ W hp (by show (Oct.listE r.texts).1.length≤_;omega)
  rw[show (⟨(Oct.listE r.texts).1.toArray⟩:ByteArray).data.toList=(Oct.listE r.texts).1 from rfl,hlk]at this
  exact this
 have hc1:=b1
 have hc2:=b2
 simp at hc1 hc2
 have hkk:0≤k∧k≤2:=by simp at k1 k2;omega
 have T0:=yh (fun W=>yde a W hc1.1 (by omega))
 have T1:=yh (fun W=>yde k W hkk.1 (by omega))
 have T2:=yh (fun W=>yde n W hc2.1 (by omega))
 have LB:Hid (∀(W:World) (g:Nat),Row W g 9 [S (Oct.num a.toNat),S (Oct.num k.toNat),S (Oct.num n.toNat),.string body]→Calls Tryz.prog 99 #[.slice (some ⟨g,0,none⟩) 4 4] W fun e w'=>e=.returned (.tuple #[S (Oct.listE r.texts).1,.int .i64 (Oct.listE r.texts).2])∧Below W.heap.size W w'):=fun W g h=>ykc r.texts h (by rw[hr];rfl) 4 4 (by rw[hr];rfl)
 have HDL:=yh (Rp.yao (r:=r.linked) (by rw[hr];exact hp) (Rp.ybf r))
 have HD1:=yh (Rp.yan (r:=r.linked) (by rw[hr];exact hp) (Rp.ybf r))
 have HPL:=yh (Tx.yap _ hp)
 have Hrow0:=yh (Row.new w 62 (bRow p).toList)
 have hq:(Rp.linkE ⟨a,k,n,body,p,Tx.zero⟩)=Rp.linkE r:=by rw[hr]
 show Calls _ _ _ _ _
 have hlc:(Rp.mk a k n body p Tx.zero).linked.cells=r.linked.cells:=by rw[hr]
 rw[hlc]
 generalize (Oct.listE r.texts).2=en at *
 generalize (Oct.listE r.texts).1=ts at *
 generalize r.linked.cells=D at *
 generalize r.link=K at *
 generalize Oct.num a.toNat=t0 at *
 generalize Oct.num k.toNat=t1 at *
 generalize Oct.num n.toNat=t2 at *
 clear b1 b2 hc1 hc2 hkk hr hD hln hbl hlk hq hlc hp hRS
 have H2:=yh (ycg w (bRow p) Rp.zero.cells.toArray 62 64)
 have Hbu:=yh hbu
 clear hbu
 go_enter Tryz.func70,Tryz.ntmps70
 go_wp2_with fail
 refine(N1.out _).mono ?_
 rintro _ w1 ⟨rfl,rfl⟩
 go_wp2_with fail
 refine(N2.out _).mono ?_
 rintro _ w1 ⟨rfl,rfl⟩
 go_wp2_with fail
 refine yau ?_
 intro w1 hw1
 have hb1:Below w.heap.size w w1:=by rw[hw1];exact H2.out.2.1
 have hr1:Row w1 (w.heap.size+1) 64 Rp.zero.cells:=by rw[hw1];exact H2.out.1
 have hh1:Row w1 w.heap.size 62 (bRow p).toList:=by rw[hw1];exact H2.out.2.2
 have HI1:Hid (LinkIn w w1 p):=⟨hb1,hh1,_,HZL.out,hr1⟩
 clear hw1 hb1 hr1 hh1 H2 hzv
 refine(T0.out _).mono ?_
 rintro _ w2 ⟨rfl,hb2⟩
 have HI2:=yh (HI1.out.step hb2)
 clear hb2
 go_wp2_with fail
 refine(T1.out _).mono ?_
 rintro _ w3 ⟨rfl,hb3⟩
 have HI3:=yh (HI2.out.step hb3)
 clear hb3
 go_wp2_with fail
 refine(T2.out _).mono ?_
 rintro _ w4 ⟨rfl,hb4⟩
 have HI4:=yh (HI3.out.step hb4)
 clear hb4
 go_wp2_with fail
 refine yau ?_
 intro w5 hw5
 have hr5:Row w5 w4.heap.size 9 [S t0,S t1,S t2,.string body]:=by rw[hw5];exact Row.new w4 9 [S t0,S t1,S t2,.string body]
 have HI5:Hid (LinkIn w w5 p):=by rw[hw5];exact HI4.out.step ((Below.refl _ _).alloc (Nat.le_refl _) _)
 clear hw5
 refine(LB.out w5 _ hr5).mono ?_
 rintro _ w6 ⟨rfl,hb6⟩
 have HS0:Hid (LinkIn w w6.drew p):=(HI5.out.step hb6).step (Below.refl _ _).drew
 have hu23:=Tryz.underlying62
 have hi23:(Tryz.prog.info? 62).map (·.size)=some (bRow p).toList.length:=by rw[yas,HPL.out]
 clear hb6 hr5
 go_wp2_with fail
 refine wp_region_held_drew (S:=fun w'=>LinkIn w w' p) (by kernel_rfl) (HS0.out) (fun gH=>?_)
 generalize w6.drew=w9 at *
 refine yg 0 (.int .i64 a) rfl gH ?_
 simp only[Act.put,Ya,Yb,Yc,Yd,Ye,Yf]
 refine yg 1 (.int .i64 k) rfl gH ?_
 refine yg 2 (.int .i64 n) rfl gH ?_
 refine yg 3 (.string body) rfl gH ?_
 simp only[Act.put,Ya,Yb,Yc,Yd,Ye,Yf]
 refine' yl 4 _ rfl (yieldsIf_load_mid (by rfl) _ _ rfl w.heap.size 0 rfl (bRow p).toList _ (fun w' hSw=>(yah hSw.2.1)) hu23 rfl hi23) gH ?_
 refine' yl 5 _ rfl (yieldsIf_load_mid (by rfl) _ _ rfl w.heap.size 0 rfl (bRow p).toList _ (fun w' hSw=>(yah hSw.2.1)) hu23 rfl hi23) gH ?_
 refine yg 6 (S ts) rfl gH ?_
 simp only[Act.put,Ya,Yb,Yc,Yd,Ye,Yf]
 refine yR 7 (by kernel_rfl) rfl (fun K1 hK1=>?_)
 try simp only[Act.put,Ya,Yb,Yc,Yd,Ye,Yf]
 go_simp
 refine Calls.mono (CH.out _) ?_
 rintro e wc1 ⟨rfl,hc2⟩
 refine hK1.out _ _ (gH.step hc2) (fun gH=>?_)
 clear hK1 K1
 refine' yl 8 (.agg D.toArray) rfl (ybg (by rfl) 64 [(0,.tmp 48),(1,.tmp 49),(2,.tmp 50),(3,.tmp 51),(4,.tmp 52),(5,.tmp 55)] rfl [(0,.int .i64 a),(1,.int .i64 k),(2,.int .i64 n),(3,.string body),(4,.agg (bRow p)),(5,.agg (bRow K))] rfl D.toArray Hbu.out) gH ?_
 refine yR 9 (by kernel_rfl) rfl (fun K1 hK1=>?_)
 try simp only[Act.put,Ya,Yb,Yc,Yd,Ye,Yf]
 obtain⟨Z,hZl,hZr⟩:=gH.2.2
 rw[if_pos (by rfl)]
 refine yar 64 (.tmp 10) (.tmp 56) rfl (w.heap.size+1) 0 D _ _ rfl rfl hZr (by have:=HDL.out;omega) (by rw[yaf,HDL.out]) HD1.out ?_
 intro ws3 hrS hgS
 rw[yad (HDL.out.trans hZl.symm)]at hrS
 have HrS:=yh hrS
 have eH:=gH.put hgS HDL.out hrS
 clear hrS hgS
 refine hK1.out _ _ eH (fun gH=>?_)
 clear hK1 K1
 clear eH
 refine yg 10 (.int .i64 0) rfl gH ?_
 refine wpAnyH_done (by kernel_rfl) ?_ _
 go_wp2_with fail
 have Hb9:=yh gH.1
 clear gH hu23 hi23
 refine bodyPost_ret (yaj rfl _ _ (w.heap.size+1) 64 _ _ rfl HrS.out Tryz.underlying64 rfl (by rw[yaf,List.size_toArray,HDL.out]) _ rfl) rfl ⟨rfl,Hb9.out⟩
theorem ynp (hRS:RefSum)(a k n:Int)(body:ByteArray)(p:List UInt8)(hp:p.length=32)(w:World):
 Calls Tryz.prog 70 #[.agg (bRow p),.int .i64 a,.int .i64 k,.int .i64 n,.string body] w fun e w'=>e=.returned (Rp.pairV (Rp.linkE ⟨a,k,n,body,p,Tx.zero⟩))∧Below w.heap.size w w':=by
 have hiff:=Rp.ydg ⟨a,k,n,body,p,Tx.zero⟩
 simp only at hiff
 have yes:(Rp.mk a k n body p Tx.zero).ok=true→Rp.pairV (Rp.linkE ⟨a,k,n,body,p,Tx.zero⟩)=.tuple #[.agg (Rp.linked ⟨a,k,n,body,p,Tx.zero⟩).cells.toArray,.int .i64 0]:=fun h=>by unfold Rp.linkE;rw[if_pos h];rfl
 have no :¬(Rp.mk a k n body p Tx.zero).ok=true→Rp.pairV (Rp.linkE ⟨a,k,n,body,p,Tx.zero⟩)=.tuple #[.agg Rp.zero.cells.toArray,.int .i64 2]:=fun h=>by unfold Rp.linkE;rw[if_neg h];rfl
 rcases Bool.eq_false_or_eq_true (decide (0≤a)&&decide (a≤1099511627776))with b1|b1
 · rcases Bool.eq_false_or_eq_true (decide (0≤n)&&decide (n≤1099511627776))with b2|b2
   · have c1:=b1
     have c2:=b2
     simp at c1 c2
     rcases Bool.eq_false_or_eq_true (k != 1)with k1|k1
     · have d1:=k1
       simp at d1
       rcases Bool.eq_false_or_eq_true (k != 2)with k2|k2
       · have d2:=k2
         simp at d2
         rw[no (fun h=>by rw[hiff]at h;omega)];exact yp1 a k n body p hp w b1 b2 k1 k2
       · have d2:=k2
         simp at d2
         by_cases s0:(656:Int)<(body.size:Int)
         · rw[no (fun h=>by rw[hiff]at h;omega)];exact ypz a k n body p hp w b1 b2 k1 k2 s0
         · rw[yes (by rw[hiff];omega)];exact ypx hRS a k n body p hp w b1 b2 k1 k2 s0
     · have d1:=k1
       simp at d1
       by_cases s0:(656:Int)<(body.size:Int)
       · rw[no (fun h=>by rw[hiff]at h;omega)];exact yp0 a k n body p hp w b1 b2 k1 s0
       · rw[yes (by rw[hiff];omega)];exact ypy hRS a k n body p hp w b1 b2 k1 s0
   · have c2:=b2
     simp at c2
     rw[no (fun h=>by rw[hiff]at h;omega)];exact yp2 a k n body p hp w b1 b2
 · have c1:=b1
   simp at c1
   rw[no (fun h=>by rw[hiff]at h;omega)];exact yp3 a k n body p hp w b1
end
section
open Go.RowKit
namespace Rp
end Rp
end
section
open Go.RowKit
end
section
open Go.RowKit
structure Bt.Fits (b:Bt):Prop where
 seq:Tx.fits b.seq
 first:Tx.fits b.first
 before:Tx.fits b.before
 texts :∀p∈b.parts,p.2.length≤140737488351232
end
section
open Go.RowKit
theorem Row.type {w:World}{B:Nat}{t u:TypeId}{xs ys:List Value}(h:Row w B t xs)(k:Row w B u ys):t=u:=by
 unfold Row at h k
 rw[h]at k
 injection k with k
 injection k
def Blocks (w0 W:World)(l:List (Nat×TypeId×List Value)):Prop:=Below w0.heap.size w0 W∧∀x∈l,Row W x.1 x.2.1 x.2.2
namespace Blocks
variable {w0 W W' : World} {l : List (Nat × TypeId × List Value)} {g : Nat} {T : TypeId} {C : List Value}
theorem nil (h:Below w0.heap.size w0 W):Blocks w0 W []:=⟨h,by simp⟩
theorem step (h:Blocks w0 W l)(hb:Below W.heap.size W W'):Blocks w0 W' l:=⟨yaa h.1 hb,fun x hx=>(h.2 x hx).kept (yae hb none) (by simp)⟩
theorem drew (h:Blocks w0 W l):Blocks w0 W.drew l:=h.step (Below.refl _ _).drew
theorem alloc (h:Blocks w0 W l)(o:Obj):Blocks w0 (W.alloc o) l:=h.step ((Below.refl _ _).alloc (Nat.le_refl _) o)
theorem put (h:Blocks w0 W l)(hg:W.grownBy W' (some g))(hs:w0.heap.size≤g)(hn :∀x∈l,x.1≠g):Blocks w0 W' l:=
 ⟨h.1.grown hg h.1.size (fun k hk=>by cases hk;exact hs),fun x hx=>(h.2 x hx).kept hg (by have:=hn x hx;simpa using this)⟩
theorem cons (h:Blocks w0 W l)(hr:Row W g T C):Blocks w0 W ((g,T,C)::l):=⟨h.1,fun x hx=>by
 rcases List.mem_cons.1 hx with rfl|hx
 · exact hr
 · exact h.2 x hx⟩
theorem size (h:Blocks w0 W l):w0.heap.size≤W.heap.size:=h.1.size
theorem fresh (h:Blocks w0 W l) :∀x∈l,x.1≠W.heap.size:=fun x hx=>by have:=(h.2 x hx).lt;omega
theorem hd (h:Blocks w0 W ((g,T,C)::l)):Row W g T C:=h.2 (g,T,C) List.mem_cons_self
end Blocks
end
section
open Go.RowKit
def NumIs (s:List UInt8)(x n:Int):Prop:=(n=0∧Tx.numAll s=some x)∨((n != 0)=true∧Tx.numAll s=none)
def ListIs (s:List UInt8)(L:List (List UInt8))(n:Int):Prop:=(n=0∧Tx.listAll s=some L)∨((n != 0)=true∧Tx.listAll s=none∧L=[])
theorem yd0 (s:ByteArray)(w:World)(hs:s.size≤140737488351232):
 Calls Tryz.prog 74 #[.string s] w fun e w' =>∃(x n:Int),e=.returned (.tuple #[.int .i64 x,.int .i64 n])∧NumIs s.data.toList x n∧w=w':=by
 have RN:=ybd s 0 w hs
 have hq:(s.data.toList.length:Int)=(s.size:Int):=by rw[Array.length_toList];rfl
 unfold rdNumV three at RN
 have hN :∀x n:Int,((n=0∧(if (Oct.rdNum s.data.toList 0).2.2=0∧(Oct.rdNum s.data.toList 0).2.1=s.data.toList.length then some (Oct.rdNum s.data.toList 0).1 else none)=some x)∨((n != 0)=true∧(if (Oct.rdNum s.data.toList 0).2.2=0∧(Oct.rdNum s.data.toList 0).2.1=s.data.toList.length then some (Oct.rdNum s.data.toList 0).1 else none)=none))→NumIs s.data.toList x n:=fun x n h=>h
 rcases hrd:Oct.rdNum s.data.toList 0 with⟨x,q,n⟩
 have hok:=Oct.yce hrd
 rw[hrd,hq]at hN
 rw[hrd]at RN
 simp only at RN hN
 rw[hq]at hok
 have HRN:=yh RN
 have HNm:=yh hN
 clear RN hrd hq hN
 rcases hok with⟨hn,rfl,rfl⟩|⟨rfl,_,_,_,_,hqs,_⟩
 · have d0:(n == 0)=false:=by simpa using hn
   have HE:Hid ((n != 0)=true):=yh (by simpa using hn)
   go_enter Tryz.func74,Tryz.ntmps74
   go_wp2_with fail
   refine HRN.out.mono ?_
   rintro _ w1 ⟨rfl,rfl⟩
   go_wp2_with fail
   go_ret2
   exact⟨0,n,rfl,HNm.out _ _ (.inr ⟨HE.out,if_neg (fun h=>hn h.1)⟩),rfl⟩
 · by_cases hlt:q<(s.size:Int)
   · have hne:q≠(s.size:Int):=by omega
     have HNe:=yh hne
     clear hne hqs
     go_enter Tryz.func74,Tryz.ntmps74
     go_wp2_with fail
     refine HRN.out.mono ?_
     rintro _ w1 ⟨rfl,rfl⟩
     go_wp2_with fail
     go_ret2
     exact⟨0,6,rfl,HNm.out _ _ (.inr ⟨rfl,if_neg (fun h=>HNe.out h.2)⟩),rfl⟩
   · obtain rfl:q=(s.size:Int):=by omega
     clear hlt hqs
     go_enter Tryz.func74,Tryz.ntmps74
     go_wp2_with fail
     refine HRN.out.mono ?_
     rintro _ w1 ⟨rfl,rfl⟩
     go_wp2_with fail
     go_ret2
     exact⟨x,0,rfl,HNm.out _ _ (.inl ⟨rfl,by simp⟩),rfl⟩
theorem ycx (s:ByteArray)(w:World)(hs:s.size≤140737488351232):
 Calls Tryz.prog 73 #[.string s] w fun e w' =>∃(L:List (List UInt8)) (v:Value) (n:Int),e=.returned (.tuple #[v,.int .i64 n])∧TextsV w' v L∧ListIs s.data.toList L n∧Below w.heap.size w w':=by
 have RN:=ygm s 0 w hs
 have hq:(s.data.toList.length:Int)=(s.size:Int):=by rw[Array.length_toList];rfl
 unfold ListEnds at RN
 have hN :∀(L:List (List UInt8)) (n:Int),((n=0∧(if (Oct.rdList s.data.toList 0).2.2=0∧(Oct.rdList s.data.toList 0).2.1=s.data.toList.length then some (Oct.rdList s.data.toList 0).1 else none)=some L)∨((n != 0)=true∧(if (Oct.rdList s.data.toList 0).2.2=0∧(Oct.rdList s.data.toList 0).2.1=s.data.toList.length then some (Oct.rdList s.data.toList 0).1 else none)=none∧L=[]))→ListIs s.data.toList L n:=fun x n h=>h
 rcases hrd:Oct.rdList s.data.toList 0 with⟨L,q,n⟩
 have hok:=Oct.yj5 hrd
 rw[hrd,hq]at hN
 rw[hrd]at RN
 simp only at RN hN
 rw[hq]at hok
 have HRN:=yh RN
 have HNm:=yh hN
 clear RN hrd hq hN
 have nilV :∀W:World,TextsV W (.slice none 0 0) []:=fun W=>⟨none,0,rfl,fun h=>absurd rfl h⟩
 have HNV:=yh nilV
 clear nilV
 rcases hok with⟨hn,rfl,rfl⟩|⟨rfl,_,_,hqs,_⟩
 · have d0:(n == 0)=false:=by simpa using hn
   have HE:Hid ((n != 0)=true):=yh (by simpa using hn)
   go_enter Tryz.func73,Tryz.ntmps73
   go_wp2_with fail
   refine HRN.out.mono ?_
   rintro _ w1 ⟨v,rfl,hT,hb⟩
   have HT:=yh hT
   have HB:=yh hb
   clear hT hb
   go_wp2_with fail
   go_ret2
   exact⟨[],v,n,rfl,HT.out,HNm.out _ _ (.inr ⟨HE.out,if_neg (fun h=>hn h.1),rfl⟩),HB.out⟩
 · by_cases hlt:q<(s.size:Int)
   · have hne:q≠(s.size:Int):=by omega
     have HNe:=yh hne
     clear hne hqs
     go_enter Tryz.func73,Tryz.ntmps73
     go_wp2_with fail
     refine HRN.out.mono ?_
     rintro _ w1 ⟨v,rfl,hT,hb⟩
     have HB:=yh hb
     clear hT hb
     go_wp2_with fail
     go_ret2
     exact⟨[],_,6,rfl,HNV.out _,HNm.out _ _ (.inr ⟨rfl,if_neg (fun h=>HNe.out h.2),rfl⟩),HB.out⟩
   · obtain rfl:q=(s.size:Int):=by omega
     clear hlt hqs
     go_enter Tryz.func73,Tryz.ntmps73
     go_wp2_with fail
     refine HRN.out.mono ?_
     rintro _ w1 ⟨v,rfl,hT,hb⟩
     have HT:=yh hT
     have HB:=yh hb
     clear hT hb
     go_wp2_with fail
     go_ret2
     exact⟨L,v,0,rfl,HT.out,HNm.out _ _ (.inl ⟨rfl,by simp⟩),HB.out⟩
namespace No
end No
end
section
open Go.RowKit
theorem ytp (l:List UInt8)(h:l.length<32)(b:UInt8):(bRow l).toList.set l.length (Value.int .u8 (b.toNat:Int))=(bRow (l ++ [b])).toList:=by
 rw[←yjj l h b _ rfl,Array.toList_setIfInBounds]
theorem yky (l:List UInt8)(h:l.length≤32):(bRow l).toList.length=32:=by rw[Array.length_toList];exact ybb l h
theorem ytq:bRow []=bRow Tx.zero:=by kernel_rfl
theorem yg8 (s:ByteArray)(w:World)(hs:s.size=32):
 Calls Tryz.prog 75 #[.string s] w fun e w'=>e=.returned (.agg (bRow s.data.toList))∧Below w.heap.size w w':=by
 have hl:s.data.toList.length=32:=hs
 have hg :∀k (h:k<s.size),s.data.toList[k]? = some (s[k]'h):=fun k h=>List.getElem?_eq_getElem h
 have HLn:=yh hl
 have HG:=yh hg
 have HZL:Hid ((bRow Tx.zero).toList.length=32):=yh (Tx.yap Tx.zero rfl)
 have HH1:Hid (∀v∈(bRow Tx.zero).toList,v.oneCell'=true):=yh (ybw _ rfl)
 have HF1:Hid (∀v∈(bRow s.data.toList).toList,v.oneCell'=true):=yh (ybw _ hl)
 have HFL:Hid ((bRow s.data.toList).toList.length=32):=yh (Tx.yap _ hl)
 obtain⟨rB,hb2,rA⟩:=ycg w (bRow Tx.zero) (bRow Tx.zero) 62 62
 have HrA:=yh rA
 have HrB:=yh rB
 have Hb2:=yh hb2
 have hzh:=yi8
 generalize s.data.toList=l at *
 clear hl hg rB rA hb2
 go_enter Tryz.func75,Tryz.ntmps75
 go_wp2_with (first
  | ((with_reducible show wpList _ _ _ (⟨_,.build 62 _,_,_,_,_⟩::_) _ _);refine yak rfl 62 [] rfl (some 5) rfl [] rfl (bRow Tx.zero) yia ?_)
  | (with_reducible show wpList _ _ _ (⟨_, .store 62 (.tmp 3) _, _, _, _, _⟩ :: _) _ _
     refine yab rfl 62 (.tmp 3) (.tmp 5) rfl (w.heap.size+1) 0 (bRow Tx.zero).toList _ _ rfl rfl HrB.out (by have:=HZL.out;omega) (by rw[yas,HZL.out]) HH1.out ?_
     intro w2 hr2 hg2
     rw[yad rfl]at hr2
     have HrB2:=yh hr2
     have HrA2:=yh (HrA.out.kept hg2 (by simp))
     have HbA2:=yh (below_own Hb2.out hg2 (fun k hk=>by cases hk;omega))
     clear hr2 hg2))
 go_loopw [4] (fun i wr =>∃k:Nat,k≤32∧i=.int .i64 k∧Row wr w.heap.size 62 (bRow Tx.zero).toList∧Row wr (w.heap.size+1) 62 (bRow (l.take k)).toList∧Below w.heap.size w wr) (fun i _=>32-(intOf i).toNat)
 case atStart=>exact⟨0,Nat.zero_le _,rfl,HrA2.out,by rw[List.take_zero,ytq];exact HrB2.out,HbA2.out⟩
 case round=>
  obtain⟨k,hk,rfl,hA,hB,hb⟩:=hrel
  clear HrA2 HrB2 HbA2
  have htl:(l.take k).length=k:=by rw[List.length_take,HLn.out];omega
  by_cases hlt:k<32
  · have hki:(k:Int)<32:=by omega
    have hks:k<s.size:=by omega
    have hki2:(k:Int)<(s.size:Int):=by omega
    have hcell:wr.cell? ⟨w.heap.size+1,k,none⟩=some (.int .u8 0):=by
     have h1:=yhi (l.take k) (by omega)
     rw[htl]at h1
     rw[hB.cell k (by rw[yky _ (by omega)];exact hlt)]
     obtain⟨h2,h3⟩:=Array.getElem?_eq_some_iff.1 h1
     rw[←h3];simp
    have hfree:=hB.free k
    have hset:=hB.set k (.int .u8 ((s[k]'hks).toNat:Int)) (by rw[yky _ (by omega)];exact hlt)
    have hput:=ytp (l.take k) (by omega) (s[k]'hks)
    rw[htl]at hput
    have htk:l.take k ++ [s[k]'hks]=l.take (k+1):=by
     rw[List.take_add_one,HG.out k hks];rfl
    rw[hput,htk]at hset
    have HA:=yh (hA.kept (yaq wr (w.heap.size+1) k (.int .u8 ((s[k]'hks).toNat:Int))) (by simp))
    have HS:=yh hset
    have HB:=yh (hb.grown (yaq wr (w.heap.size+1) k (.int .u8 ((s[k]'hks).toNat:Int))) hb.size (fun j hj=>by cases hj;omega))
    clear hA hB hb hset hput htk htl
    go_wp2_with fail
    exact⟨⟨k+1,by omega,by go_num,HA.out,HS.out,HB.out⟩,by simp[intOf];omega⟩
  · obtain rfl:k=32:=by omega
    rw[List.take_of_length_le (by rw[HLn.out];omega)]at hB
    have HrF:=yh hB
    have HrR:=yh hA
    have HB:=yh hb
    clear hA hB hb htl
    go_wp2_with (first
     | (with_reducible show wpList _ _ _ (⟨_,.load 62 (.tmp 3),_,_,_,_⟩::_) _ _;refine yac rfl 62 (.tmp 3) rfl (w.heap.size+1) 0 rfl (bRow l).toList _ (yah HrF.out) Tryz.underlying62 rfl (by rw[yas,HFL.out]) ?_)
     | (with_reducible show wpList _ _ _ (⟨_, .store 62 (.tmp 2) _, _, _, _, _⟩ :: _) _ _
        refine yab rfl 62 (.tmp 2) (.tmp 15) rfl w.heap.size 0 (bRow l).toList _ _ rfl rfl HrR.out (by have:=HZL.out;have:=HFL.out;omega) (by rw[yas,HFL.out]) HF1.out ?_
        intro w3 hr3 hg3
        rw[yad (HFL.out.trans HZL.out.symm)]at hr3
        have Hr3:=yh hr3
        have Hb3:=yh (below_own HB.out hg3 (fun k hk=>by cases hk;exact Nat.le_refl _))
        clear hr3 hg3))
    have hT5:w3.heap[w.heap.size]? = some (.cells (bRow l) 62 (0,0)):=Hr3.out
    exact bodyPost_ret (results_cell_row rfl _ _ w.heap.size 62 _ (0,0) _ rfl hT5 Tryz.underlying62 rfl (by rw[yas,←Array.length_toList,HFL.out])) rfl ⟨rfl,Hb3.out⟩
end
section
open Go.RowKit
namespace Rp
end Rp
def RowIn2 (w0 W:World)(g g2:Nat)(T:TypeId)(C Z:List Value):Prop:=RowIn w0 W g T C∧Row W g2 T Z
theorem RowIn2.step {w0 W W':World}{g g2:Nat}{T:TypeId}{C Z:List Value}(h:RowIn2 w0 W g g2 T C Z)(hb:Below W.heap.size W W'):RowIn2 w0 W' g g2 T C Z:=
 ⟨h.1.step hb,h.2.kept (yae hb none) (by simp)⟩
end
end Go.Proofs.YtalfnadejpmjnaaGreatDoor
