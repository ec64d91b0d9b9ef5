/- A part. -/
import Derived.Test.YtalfnadejpmjnaaGreatDoorNSlC
import Derived.Deep.RegionLaw
import Derived.RangeFuncBox
import Derived.Laws.Closers25
import Derived.Deep.Onto
set_option linter.unusedVariables false
set_option linter.unusedSimpArgs false
set_option maxRecDepth 100000
set_option maxHeartbeats 25600000
namespace Go.Proofs.YtalfnadejpmjnaaGreatDoor
section
open Go.RowKit
theorem ybp {W:World}{g:Nat}{T:TypeId}{t:Tx}(ht:t.Ok)(h:Row W g T t.cells):
 W.cell? ⟨g,0,none⟩=some (.int .i64 t.frm)∧W.cell? ⟨g,1,none⟩=some (.int .i64 t.nonce)∧W.cell? ⟨g,2,none⟩=some (.int .i64 t.fee)∧W.cell? ⟨g,3,none⟩=some (.int .i64 t.to)∧
 W.cell? ⟨g,4,none⟩=some (.string t.data)∧W.cell? ⟨g,5,none⟩=some (.bool t.lane)∧W.cell? ⟨g,6,none⟩=some (.int .i64 t.round)∧W.cell? ⟨g,7,none⟩=some (.int .i64 t.turn):=by
 have hl:=Tx.yag ht
 exact⟨h.cell 0 (by omega),h.cell 1 (by omega),h.cell 2 (by omega),h.cell 3 (by omega),h.cell 4 (by omega),h.cell 5 (by omega),h.cell 6 (by omega),h.cell 7 (by omega)⟩
theorem ya0 {w w1:World}{o:Obj}(h:(w.alloc o).grownBy w1 none):Below w.heap.size w w1:=((Below.refl w.heap.size w).alloc (Nat.le_refl _) o).grown h (by simp) (fun k hk=>by cases hk)
theorem Tx.ym1 {t:Tx}(h1:Tx.acct t.frm=false):t.err=20:=by
 unfold Tx.err
 rw[if_pos (.inl h1)]
theorem Tx.ym0 {t:Tx}(h1:Tx.acct t.frm=true)(h2:Tx.acct t.to=false):t.err=20:=by
 unfold Tx.err
 rw[if_pos (.inr h2)]
theorem Tx.yrn {t:Tx}(h1:Tx.acct t.frm=true)(h2:Tx.acct t.to=true)(h3:Tx.num t.nonce=false):t.err=2:=by
 unfold Tx.err
 rw[if_neg (by rw[h1,h2];simp),if_pos (.inl h3)]
theorem Tx.yrm {t:Tx}(h1:Tx.acct t.frm=true)(h2:Tx.acct t.to=true)(h3:Tx.num t.nonce=true)(h4:Tx.num t.fee=false):t.err=2:=by
 unfold Tx.err
 rw[if_neg (by rw[h1,h2];simp),if_pos (.inr h4)]
theorem Tx.yrl {t:Tx}(h1:Tx.acct t.frm=true)(h2:Tx.acct t.to=true)(h3:Tx.num t.nonce=true)(h4:Tx.num t.fee=true)(h5:t.lane=true)(h6:Tx.num t.round=false):t.err=2:=by
 unfold Tx.err
 rw[if_neg (by rw[h1,h2];simp),if_neg (by rw[h3,h4];simp),if_pos (.inl ⟨h5,.inl h6⟩)]
theorem Tx.yrk {t:Tx}(h1:Tx.acct t.frm=true)(h2:Tx.acct t.to=true)(h3:Tx.num t.nonce=true)(h4:Tx.num t.fee=true)(h5:t.lane=true)(h6:Tx.num t.round=true)(h7:Tx.num t.turn=false):t.err=2:=by
 unfold Tx.err
 rw[if_neg (by rw[h1,h2];simp),if_neg (by rw[h3,h4];simp),if_pos (.inl ⟨h5,.inr h7⟩)]
theorem Tx.yrj {t:Tx}(h1:Tx.acct t.frm=true)(h2:Tx.acct t.to=true)(h3:Tx.num t.nonce=true)(h4:Tx.num t.fee=true)(h5:t.lane=false)(h6:t.plain=false):t.err=2:=by
 unfold Tx.err
 rw[if_neg (by rw[h1,h2];simp),if_neg (by rw[h3,h4];simp),if_pos (.inr ⟨h5,h6⟩)]
theorem Tx.yri {t:Tx}(h1:Tx.acct t.frm=true)(h2:Tx.acct t.to=true)(h3:Tx.num t.nonce=true)(h4:Tx.num t.fee=true)(h5:t.lane=true)(h6:Tx.num t.round=true)(h7:Tx.num t.turn=true)(h8:256<t.data.size):t.err=3:=by
 unfold Tx.err
 rw[if_neg (by rw[h1,h2];simp),if_neg (by rw[h3,h4];simp),if_neg (by rw[h5,h6,h7];simp),if_pos h8]
theorem Tx.yrp {t:Tx}(h1:Tx.acct t.frm=true)(h2:Tx.acct t.to=true)(h3:Tx.num t.nonce=true)(h4:Tx.num t.fee=true)(h5:t.lane=true)(h6:Tx.num t.round=true)(h7:Tx.num t.turn=true)(h8:t.data.size≤256):t.err=0:=by
 unfold Tx.err
 rw[if_neg (by rw[h1,h2];simp),if_neg (by rw[h3,h4];simp),if_neg (by rw[h5,h6,h7];simp),if_neg (by omega)]
theorem Tx.yrh {t:Tx}(h1:Tx.acct t.frm=true)(h2:Tx.acct t.to=true)(h3:Tx.num t.nonce=true)(h4:Tx.num t.fee=true)(h5:t.lane=false)(h6:t.plain=true)(h8:256<t.data.size):t.err=3:=by
 unfold Tx.err
 rw[if_neg (by rw[h1,h2];simp),if_neg (by rw[h3,h4];simp),if_neg (by rw[h5,h6];simp),if_pos h8]
theorem Tx.yro {t:Tx}(h1:Tx.acct t.frm=true)(h2:Tx.acct t.to=true)(h3:Tx.num t.nonce=true)(h4:Tx.num t.fee=true)(h5:t.lane=false)(h6:t.plain=true)(h8:t.data.size≤256):t.err=0:=by
 unfold Tx.err
 rw[if_neg (by rw[h1,h2];simp),if_neg (by rw[h3,h4];simp),if_neg (by rw[h5,h6];simp),if_neg (by omega)]
theorem yl4 (t:Tx)(ht:t.Ok)(w:World)(h1:Tx.acct t.frm=false):
 Calls Tryz.prog 181 #[t.v] w fun e w'=>e=.returned (.int .i64 20)∧Below w.heap.size w w':=by
 obtain⟨c0,c1,c2,c3,c4,c5,c6,c7⟩:=ybp ht (Row.new w 81 t.cells)
 have hrng:=ya3 (Row.new w 81 t.cells)
 have hlen:=Tx.yag ht
 have HL:=yh hlen
 have Hrng:=yh hrng
 have Hrow:=yh (Row.new w 81 t.cells)
 have Ht:=yh ht
 clear hlen hrng
 clear ht
 show Calls _ _ #[.agg t.cells.toArray] _ _
 go_enter Tryz.func181,Tryz.ntmps181
 go_wp2_with (first
  | (go_at_call 194;with_reducible refine(ybm _ _).mono ?_;rintro e w' ⟨rfl,rfl⟩)
  | (go_at_call 195;with_reducible refine(ybl _ _).mono ?_;rintro e w' ⟨rfl,rfl⟩))
 go_ret
 exact⟨rfl,ya0 (yav _ _)⟩
theorem yl3 (t:Tx)(ht:t.Ok)(w:World)(h1:Tx.acct t.frm=true)(h2:Tx.acct t.to=false):
 Calls Tryz.prog 181 #[t.v] w fun e w'=>e=.returned (.int .i64 20)∧Below w.heap.size w w':=by
 obtain⟨c0,c1,c2,c3,c4,c5,c6,c7⟩:=ybp ht (Row.new w 81 t.cells)
 have hrng:=ya3 (Row.new w 81 t.cells)
 have hlen:=Tx.yag ht
 have HL:=yh hlen
 have Hrng:=yh hrng
 have Hrow:=yh (Row.new w 81 t.cells)
 have Ht:=yh ht
 clear hlen hrng
 clear ht
 show Calls _ _ #[.agg t.cells.toArray] _ _
 go_enter Tryz.func181,Tryz.ntmps181
 go_wp2_with (first
  | (go_at_call 194;with_reducible refine(ybm _ _).mono ?_;rintro e w' ⟨rfl,rfl⟩)
  | (go_at_call 195;with_reducible refine(ybl _ _).mono ?_;rintro e w' ⟨rfl,rfl⟩))
 go_ret
 exact⟨rfl,ya0 (yav _ _)⟩
theorem yor (t:Tx)(ht:t.Ok)(w:World)(h1:Tx.acct t.frm=true)(h2:Tx.acct t.to=true)(h3:Tx.num t.nonce=false):
 Calls Tryz.prog 181 #[t.v] w fun e w'=>e=.returned (.int .i64 2)∧Below w.heap.size w w':=by
 obtain⟨c0,c1,c2,c3,c4,c5,c6,c7⟩:=ybp ht (Row.new w 81 t.cells)
 have hrng:=ya3 (Row.new w 81 t.cells)
 have hlen:=Tx.yag ht
 have HL:=yh hlen
 have Hrng:=yh hrng
 have Hrow:=yh (Row.new w 81 t.cells)
 have Ht:=yh ht
 clear hlen hrng
 clear ht
 show Calls _ _ #[.agg t.cells.toArray] _ _
 go_enter Tryz.func181,Tryz.ntmps181
 go_wp2_with (first
  | (go_at_call 194;with_reducible refine(ybm _ _).mono ?_;rintro e w' ⟨rfl,rfl⟩)
  | (go_at_call 195;with_reducible refine(ybl _ _).mono ?_;rintro e w' ⟨rfl,rfl⟩))
 go_ret
 exact⟨rfl,ya0 (yav _ _)⟩
theorem yoq (t:Tx)(ht:t.Ok)(w:World)(h1:Tx.acct t.frm=true)(h2:Tx.acct t.to=true)(h3:Tx.num t.nonce=true)(h4:Tx.num t.fee=false):
 Calls Tryz.prog 181 #[t.v] w fun e w'=>e=.returned (.int .i64 2)∧Below w.heap.size w w':=by
 obtain⟨c0,c1,c2,c3,c4,c5,c6,c7⟩:=ybp ht (Row.new w 81 t.cells)
 have hrng:=ya3 (Row.new w 81 t.cells)
 have hlen:=Tx.yag ht
 have HL:=yh hlen
 have Hrng:=yh hrng
 have Hrow:=yh (Row.new w 81 t.cells)
 have Ht:=yh ht
 clear hlen hrng
 clear ht
 show Calls _ _ #[.agg t.cells.toArray] _ _
 go_enter Tryz.func181,Tryz.ntmps181
 go_wp2_with (first
  | (go_at_call 194;with_reducible refine(ybm _ _).mono ?_;rintro e w' ⟨rfl,rfl⟩)
  | (go_at_call 195;with_reducible refine(ybl _ _).mono ?_;rintro e w' ⟨rfl,rfl⟩))
 go_ret
 exact⟨rfl,ya0 (yav _ _)⟩
theorem yop (t:Tx)(ht:t.Ok)(w:World)(h1:Tx.acct t.frm=true)(h2:Tx.acct t.to=true)(h3:Tx.num t.nonce=true)(h4:Tx.num t.fee=true)(h5:t.lane=true)(h6:Tx.num t.round=false):
 Calls Tryz.prog 181 #[t.v] w fun e w'=>e=.returned (.int .i64 2)∧Below w.heap.size w w':=by
 obtain⟨c0,c1,c2,c3,c4,c5,c6,c7⟩:=ybp ht (Row.new w 81 t.cells)
 have hrng:=ya3 (Row.new w 81 t.cells)
 have hlen:=Tx.yag ht
 have HL:=yh hlen
 have Hrng:=yh hrng
 have Hrow:=yh (Row.new w 81 t.cells)
 have Ht:=yh ht
 clear hlen hrng
 clear ht
 show Calls _ _ #[.agg t.cells.toArray] _ _
 go_enter Tryz.func181,Tryz.ntmps181
 go_wp2_with (first
  | (go_at_call 194;with_reducible refine(ybm _ _).mono ?_;rintro e w' ⟨rfl,rfl⟩)
  | (go_at_call 195;with_reducible refine(ybl _ _).mono ?_;rintro e w' ⟨rfl,rfl⟩))
 go_ret
 exact⟨rfl,ya0 (yav _ _)⟩
theorem yoo (t:Tx)(ht:t.Ok)(w:World)(h1:Tx.acct t.frm=true)(h2:Tx.acct t.to=true)(h3:Tx.num t.nonce=true)(h4:Tx.num t.fee=true)(h5:t.lane=true)(h6:Tx.num t.round=true)(h7:Tx.num t.turn=false):
 Calls Tryz.prog 181 #[t.v] w fun e w'=>e=.returned (.int .i64 2)∧Below w.heap.size w w':=by
 obtain⟨c0,c1,c2,c3,c4,c5,c6,c7⟩:=ybp ht (Row.new w 81 t.cells)
 have hrng:=ya3 (Row.new w 81 t.cells)
 have hlen:=Tx.yag ht
 have HL:=yh hlen
 have Hrng:=yh hrng
 have Hrow:=yh (Row.new w 81 t.cells)
 have Ht:=yh ht
 clear hlen hrng
 clear ht
 show Calls _ _ #[.agg t.cells.toArray] _ _
 go_enter Tryz.func181,Tryz.ntmps181
 go_wp2_with (first
  | (go_at_call 194;with_reducible refine(ybm _ _).mono ?_;rintro e w' ⟨rfl,rfl⟩)
  | (go_at_call 195;with_reducible refine(ybl _ _).mono ?_;rintro e w' ⟨rfl,rfl⟩))
 go_ret
 exact⟨rfl,ya0 (yav _ _)⟩
theorem yon (t:Tx)(ht:t.Ok)(w:World)(h1:Tx.acct t.frm=true)(h2:Tx.acct t.to=true)(h3:Tx.num t.nonce=true)(h4:Tx.num t.fee=true)(h5:t.lane=false)(h6:t.plain=false):
 Calls Tryz.prog 181 #[t.v] w fun e w'=>e=.returned (.int .i64 2)∧Below w.heap.size w w':=by
 obtain⟨c0,c1,c2,c3,c4,c5,c6,c7⟩:=ybp ht (Row.new w 81 t.cells)
 have hrng:=ya3 (Row.new w 81 t.cells)
 have hlen:=Tx.yag ht
 have HL:=yh hlen
 have Hrng:=yh hrng
 have Hrow:=yh (Row.new w 81 t.cells)
 have Ht:=yh ht
 clear hlen hrng
 have PL:Hid (∀W,Calls Tryz.prog 196 #[.agg t.cells.toArray] W fun e w'=>e=.returned (.bool t.plain)∧W.grownBy w' none):=fun W=>ygv t Ht.out h5 W
 clear ht
 show Calls _ _ #[.agg t.cells.toArray] _ _
 go_enter Tryz.func181,Tryz.ntmps181
 go_wp2_with (first
  | (go_at_call 194;with_reducible refine(ybm _ _).mono ?_;rintro e w' ⟨rfl,rfl⟩)
  | (go_at_call 195;with_reducible refine(ybl _ _).mono ?_;rintro e w' ⟨rfl,rfl⟩)
  | (with_reducible show wpList _ _ _ (⟨_,.load 81 _,_,_,_,_⟩::_) _ _;refine yac rfl 81 (.tmp 1) rfl w.heap.size 0 rfl t.cells _ Hrng.out Tryz.underlying81 rfl (by rw[yam,HL.out]) ?_)
  | (go_at_call 196; refine (PL.out _).mono ?_; rintro e w1 ⟨rfl, hg1⟩
     have c4':=hg1.cell c4 (by simp)
     have Hg1:=yh hg1
     clear hg1 c0 c1 c2 c3 c4 c5 c6 c7))
 go_ret
 exact⟨rfl,ya0 Hg1.out⟩
theorem yom (t:Tx)(ht:t.Ok)(w:World)(h1:Tx.acct t.frm=true)(h2:Tx.acct t.to=true)(h3:Tx.num t.nonce=true)(h4:Tx.num t.fee=true)(h5:t.lane=true)(h6:Tx.num t.round=true)(h7:Tx.num t.turn=true)(h8:256<t.data.size):
 Calls Tryz.prog 181 #[t.v] w fun e w'=>e=.returned (.int .i64 3)∧Below w.heap.size w w':=by
 obtain⟨c0,c1,c2,c3,c4,c5,c6,c7⟩:=ybp ht (Row.new w 81 t.cells)
 have hrng:=ya3 (Row.new w 81 t.cells)
 have hlen:=Tx.yag ht
 have HL:=yh hlen
 have Hrng:=yh hrng
 have Hrow:=yh (Row.new w 81 t.cells)
 have Ht:=yh ht
 clear hlen hrng
 have h8':(256:Int)<(t.data.size:Int):=by omega
 clear ht
 show Calls _ _ #[.agg t.cells.toArray] _ _
 go_enter Tryz.func181,Tryz.ntmps181
 go_wp2_with (first
  | (go_at_call 194;with_reducible refine(ybm _ _).mono ?_;rintro e w' ⟨rfl,rfl⟩)
  | (go_at_call 195;with_reducible refine(ybl _ _).mono ?_;rintro e w' ⟨rfl,rfl⟩))
 go_ret
 exact⟨rfl,ya0 (yav _ _)⟩
theorem yot (t:Tx)(ht:t.Ok)(w:World)(h1:Tx.acct t.frm=true)(h2:Tx.acct t.to=true)(h3:Tx.num t.nonce=true)(h4:Tx.num t.fee=true)(h5:t.lane=true)(h6:Tx.num t.round=true)(h7:Tx.num t.turn=true)(h8:t.data.size≤256):
 Calls Tryz.prog 181 #[t.v] w fun e w'=>e=.returned (.int .i64 0)∧Below w.heap.size w w':=by
 obtain⟨c0,c1,c2,c3,c4,c5,c6,c7⟩:=ybp ht (Row.new w 81 t.cells)
 have hrng:=ya3 (Row.new w 81 t.cells)
 have hlen:=Tx.yag ht
 have HL:=yh hlen
 have Hrng:=yh hrng
 have Hrow:=yh (Row.new w 81 t.cells)
 have Ht:=yh ht
 clear hlen hrng
 have h8':(t.data.size:Int)≤256:=by omega
 clear ht
 show Calls _ _ #[.agg t.cells.toArray] _ _
 go_enter Tryz.func181,Tryz.ntmps181
 go_wp2_with (first
  | (go_at_call 194;with_reducible refine(ybm _ _).mono ?_;rintro e w' ⟨rfl,rfl⟩)
  | (go_at_call 195;with_reducible refine(ybl _ _).mono ?_;rintro e w' ⟨rfl,rfl⟩))
 go_ret
 exact⟨rfl,ya0 (yav _ _)⟩
theorem yol (t:Tx)(ht:t.Ok)(w:World)(h1:Tx.acct t.frm=true)(h2:Tx.acct t.to=true)(h3:Tx.num t.nonce=true)(h4:Tx.num t.fee=true)(h5:t.lane=false)(h6:t.plain=true)(h8:256<t.data.size):
 Calls Tryz.prog 181 #[t.v] w fun e w'=>e=.returned (.int .i64 3)∧Below w.heap.size w w':=by
 obtain⟨c0,c1,c2,c3,c4,c5,c6,c7⟩:=ybp ht (Row.new w 81 t.cells)
 have hrng:=ya3 (Row.new w 81 t.cells)
 have hlen:=Tx.yag ht
 have HL:=yh hlen
 have Hrng:=yh hrng
 have Hrow:=yh (Row.new w 81 t.cells)
 have Ht:=yh ht
 clear hlen hrng
 have PL:Hid (∀W,Calls Tryz.prog 196 #[.agg t.cells.toArray] W fun e w'=>e=.returned (.bool t.plain)∧W.grownBy w' none):=fun W=>ygv t Ht.out h5 W
 have h8':(256:Int)<(t.data.size:Int):=by omega
 clear ht
 show Calls _ _ #[.agg t.cells.toArray] _ _
 go_enter Tryz.func181,Tryz.ntmps181
 go_wp2_with (first
  | (go_at_call 194;with_reducible refine(ybm _ _).mono ?_;rintro e w' ⟨rfl,rfl⟩)
  | (go_at_call 195;with_reducible refine(ybl _ _).mono ?_;rintro e w' ⟨rfl,rfl⟩)
  | (with_reducible show wpList _ _ _ (⟨_,.load 81 _,_,_,_,_⟩::_) _ _;refine yac rfl 81 (.tmp 1) rfl w.heap.size 0 rfl t.cells _ Hrng.out Tryz.underlying81 rfl (by rw[yam,HL.out]) ?_)
  | (go_at_call 196; refine (PL.out _).mono ?_; rintro e w1 ⟨rfl, hg1⟩
     have c4':=hg1.cell c4 (by simp)
     have Hg1:=yh hg1
     clear hg1 c0 c1 c2 c3 c4 c5 c6 c7))
 go_ret
 exact⟨rfl,ya0 Hg1.out⟩
theorem yos (t:Tx)(ht:t.Ok)(w:World)(h1:Tx.acct t.frm=true)(h2:Tx.acct t.to=true)(h3:Tx.num t.nonce=true)(h4:Tx.num t.fee=true)(h5:t.lane=false)(h6:t.plain=true)(h8:t.data.size≤256):
 Calls Tryz.prog 181 #[t.v] w fun e w'=>e=.returned (.int .i64 0)∧Below w.heap.size w w':=by
 obtain⟨c0,c1,c2,c3,c4,c5,c6,c7⟩:=ybp ht (Row.new w 81 t.cells)
 have hrng:=ya3 (Row.new w 81 t.cells)
 have hlen:=Tx.yag ht
 have HL:=yh hlen
 have Hrng:=yh hrng
 have Hrow:=yh (Row.new w 81 t.cells)
 have Ht:=yh ht
 clear hlen hrng
 have PL:Hid (∀W,Calls Tryz.prog 196 #[.agg t.cells.toArray] W fun e w'=>e=.returned (.bool t.plain)∧W.grownBy w' none):=fun W=>ygv t Ht.out h5 W
 have h8':(t.data.size:Int)≤256:=by omega
 clear ht
 show Calls _ _ #[.agg t.cells.toArray] _ _
 go_enter Tryz.func181,Tryz.ntmps181
 go_wp2_with (first
  | (go_at_call 194;with_reducible refine(ybm _ _).mono ?_;rintro e w' ⟨rfl,rfl⟩)
  | (go_at_call 195;with_reducible refine(ybl _ _).mono ?_;rintro e w' ⟨rfl,rfl⟩)
  | (with_reducible show wpList _ _ _ (⟨_,.load 81 _,_,_,_,_⟩::_) _ _;refine yac rfl 81 (.tmp 1) rfl w.heap.size 0 rfl t.cells _ Hrng.out Tryz.underlying81 rfl (by rw[yam,HL.out]) ?_)
  | (go_at_call 196; refine (PL.out _).mono ?_; rintro e w1 ⟨rfl, hg1⟩
     have c4':=hg1.cell c4 (by simp)
     have Hg1:=yh hg1
     clear hg1 c0 c1 c2 c3 c4 c5 c6 c7))
 go_ret
 exact⟨rfl,ya0 Hg1.out⟩
theorem yfg (t:Tx)(ht:t.Ok)(w:World):
 Calls Tryz.prog 181 #[t.v] w fun e w'=>e=.returned (.int .i64 t.err)∧Below w.heap.size w w':=by
 rcases Bool.eq_false_or_eq_true (Tx.acct t.frm)with h1|h1
 · rcases Bool.eq_false_or_eq_true (Tx.acct t.to)with h2|h2
   · rcases Bool.eq_false_or_eq_true (Tx.num t.nonce)with h3|h3
     · rcases Bool.eq_false_or_eq_true (Tx.num t.fee)with h4|h4
       · rcases Bool.eq_false_or_eq_true t.lane with h5|h5
         · rcases Bool.eq_false_or_eq_true (Tx.num t.round)with h6|h6
           · rcases Bool.eq_false_or_eq_true (Tx.num t.turn)with h7|h7
             · rcases Nat.lt_or_ge 256 t.data.size with h8|h8
               · rw[Tx.yri h1 h2 h3 h4 h5 h6 h7 h8];exact yom t ht w h1 h2 h3 h4 h5 h6 h7 h8
               · rw[Tx.yrp h1 h2 h3 h4 h5 h6 h7 h8];exact yot t ht w h1 h2 h3 h4 h5 h6 h7 h8
             · rw[Tx.yrk h1 h2 h3 h4 h5 h6 h7];exact yoo t ht w h1 h2 h3 h4 h5 h6 h7
           · rw[Tx.yrl h1 h2 h3 h4 h5 h6];exact yop t ht w h1 h2 h3 h4 h5 h6
         · rcases Bool.eq_false_or_eq_true t.plain with h6|h6
           · rcases Nat.lt_or_ge 256 t.data.size with h8|h8
             · rw[Tx.yrh h1 h2 h3 h4 h5 h6 h8];exact yol t ht w h1 h2 h3 h4 h5 h6 h8
             · rw[Tx.yro h1 h2 h3 h4 h5 h6 h8];exact yos t ht w h1 h2 h3 h4 h5 h6 h8
           · rw[Tx.yrj h1 h2 h3 h4 h5 h6];exact yon t ht w h1 h2 h3 h4 h5 h6
       · rw[Tx.yrm h1 h2 h3 h4];exact yoq t ht w h1 h2 h3 h4
     · rw[Tx.yrn h1 h2 h3];exact yor t ht w h1 h2 h3
   · rw[Tx.ym0 h1 h2];exact yl3 t ht w h1 h2
 · rw[Tx.ym1 h1];exact yl4 t ht w h1
theorem within63 (n:Int)(w:World):Calls Tryz.prog 106 #[.int .i64 n,.int .i64 63] w fun e w'=>e=.returned (.bool (Tx.acct n))∧w=w':=ygd n 63 w
theorem within40 (n:Int)(w:World):Calls Tryz.prog 106 #[.int .i64 n,.int .i64 1099511627776] w fun e w'=>e=.returned (.bool (Tx.num n))∧w=w':=ygd n 1099511627776 w
theorem yij:bRow Tx.zero=#[.int .u8 0,.int .u8 0,.int .u8 0,.int .u8 0,.int .u8 0,.int .u8 0,.int .u8 0,.int .u8 0,.int .u8 0,.int .u8 0,.int .u8 0,.int .u8 0,.int .u8 0,.int .u8 0,.int .u8 0,.int .u8 0,.int .u8 0,.int .u8 0,.int .u8 0,.int .u8 0,.int .u8 0,.int .u8 0,.int .u8 0,.int .u8 0,.int .u8 0,.int .u8 0,.int .u8 0,.int .u8 0,.int .u8 0,.int .u8 0,.int .u8 0,.int .u8 0]:=by kernel_rfl
theorem yia:Tryz.prog.built 62 []=some (bRow Tx.zero):=by kernel_rfl
theorem yj9 (t:Tx)(ht:t.Ok)(w:World)(h1:Tx.acct t.frm=false) :
 Calls Tryz.prog 76 #[t.v] w fun e w'=>e=.returned (.int .i64 20)∧Below w.heap.size w w':=by
 obtain⟨c0,c1,c2,c3,c4,c5,c6,c7⟩:=ybp ht (Row.new w 81 t.cells)
 have hrng:=ya3 (Row.new w 81 t.cells)
 have hlen:=Tx.yag ht
 have HL:=yh hlen
 have Hrng:=yh hrng
 have Hrow:=yh (Row.new w 81 t.cells)
 have Ht:=yh ht
 clear hlen hrng
 clear ht
 show Calls _ _ #[.agg t.cells.toArray] _ _
 go_enter Tryz.func76,Tryz.ntmps76
 go_wp2_with (first
  | (go_at_call 106;with_reducible refine(within63 _ _).mono ?_;rintro e w' ⟨rfl,rfl⟩)
  | (go_at_call 106;with_reducible refine(within40 _ _).mono ?_;rintro e w' ⟨rfl,rfl⟩))
 go_ret
 exact⟨rfl,ya0 (yav _ _)⟩
theorem yj8 (t:Tx)(ht:t.Ok)(w:World)(h1:Tx.acct t.frm=true)(h2:Tx.acct t.to=false) :
 Calls Tryz.prog 76 #[t.v] w fun e w'=>e=.returned (.int .i64 20)∧Below w.heap.size w w':=by
 obtain⟨c0,c1,c2,c3,c4,c5,c6,c7⟩:=ybp ht (Row.new w 81 t.cells)
 have hrng:=ya3 (Row.new w 81 t.cells)
 have hlen:=Tx.yag ht
 have HL:=yh hlen
 have Hrng:=yh hrng
 have Hrow:=yh (Row.new w 81 t.cells)
 have Ht:=yh ht
 clear hlen hrng
 clear ht
 show Calls _ _ #[.agg t.cells.toArray] _ _
 go_enter Tryz.func76,Tryz.ntmps76
 go_wp2_with (first
  | (go_at_call 106;with_reducible refine(within63 _ _).mono ?_;rintro e w' ⟨rfl,rfl⟩)
  | (go_at_call 106;with_reducible refine(within40 _ _).mono ?_;rintro e w' ⟨rfl,rfl⟩))
 go_ret
 exact⟨rfl,ya0 (yav _ _)⟩
theorem ylo (t:Tx)(ht:t.Ok)(w:World)(h1:Tx.acct t.frm=true)(h2:Tx.acct t.to=true)(h3:Tx.num t.nonce=false) :
 Calls Tryz.prog 76 #[t.v] w fun e w'=>e=.returned (.int .i64 2)∧Below w.heap.size w w':=by
 obtain⟨c0,c1,c2,c3,c4,c5,c6,c7⟩:=ybp ht (Row.new w 81 t.cells)
 have hrng:=ya3 (Row.new w 81 t.cells)
 have hlen:=Tx.yag ht
 have HL:=yh hlen
 have Hrng:=yh hrng
 have Hrow:=yh (Row.new w 81 t.cells)
 have Ht:=yh ht
 clear hlen hrng
 clear ht
 show Calls _ _ #[.agg t.cells.toArray] _ _
 go_enter Tryz.func76,Tryz.ntmps76
 go_wp2_with (first
  | (go_at_call 106;with_reducible refine(within63 _ _).mono ?_;rintro e w' ⟨rfl,rfl⟩)
  | (go_at_call 106;with_reducible refine(within40 _ _).mono ?_;rintro e w' ⟨rfl,rfl⟩))
 go_ret
 exact⟨rfl,ya0 (yav _ _)⟩
theorem yln (t:Tx)(ht:t.Ok)(w:World)(h1:Tx.acct t.frm=true)(h2:Tx.acct t.to=true)(h3:Tx.num t.nonce=true)(h4:Tx.num t.fee=false) :
 Calls Tryz.prog 76 #[t.v] w fun e w'=>e=.returned (.int .i64 2)∧Below w.heap.size w w':=by
 obtain⟨c0,c1,c2,c3,c4,c5,c6,c7⟩:=ybp ht (Row.new w 81 t.cells)
 have hrng:=ya3 (Row.new w 81 t.cells)
 have hlen:=Tx.yag ht
 have HL:=yh hlen
 have Hrng:=yh hrng
 have Hrow:=yh (Row.new w 81 t.cells)
 have Ht:=yh ht
 clear hlen hrng
 clear ht
 show Calls _ _ #[.agg t.cells.toArray] _ _
 go_enter Tryz.func76,Tryz.ntmps76
 go_wp2_with (first
  | (go_at_call 106;with_reducible refine(within63 _ _).mono ?_;rintro e w' ⟨rfl,rfl⟩)
  | (go_at_call 106;with_reducible refine(within40 _ _).mono ?_;rintro e w' ⟨rfl,rfl⟩))
 go_ret
 exact⟨rfl,ya0 (yav _ _)⟩
theorem ylm (t:Tx)(ht:t.Ok)(w:World)(h1:Tx.acct t.frm=true)(h2:Tx.acct t.to=true)(h3:Tx.num t.nonce=true)(h4:Tx.num t.fee=true)(h5:t.lane=true)(h6:Tx.num t.round=false) :
 Calls Tryz.prog 76 #[t.v] w fun e w'=>e=.returned (.int .i64 2)∧Below w.heap.size w w':=by
 obtain⟨c0,c1,c2,c3,c4,c5,c6,c7⟩:=ybp ht (Row.new w 81 t.cells)
 have hrng:=ya3 (Row.new w 81 t.cells)
 have hlen:=Tx.yag ht
 have HL:=yh hlen
 have Hrng:=yh hrng
 have Hrow:=yh (Row.new w 81 t.cells)
 have Ht:=yh ht
 clear hlen hrng
 clear ht
 show Calls _ _ #[.agg t.cells.toArray] _ _
 go_enter Tryz.func76,Tryz.ntmps76
 go_wp2_with (first
  | (go_at_call 106;with_reducible refine(within63 _ _).mono ?_;rintro e w' ⟨rfl,rfl⟩)
  | (go_at_call 106;with_reducible refine(within40 _ _).mono ?_;rintro e w' ⟨rfl,rfl⟩))
 go_ret
 exact⟨rfl,ya0 (yav _ _)⟩
theorem yll (t:Tx)(ht:t.Ok)(w:World)(h1:Tx.acct t.frm=true)(h2:Tx.acct t.to=true)(h3:Tx.num t.nonce=true)(h4:Tx.num t.fee=true)(h5:t.lane=true)(h6:Tx.num t.round=true)(h7:Tx.num t.turn=false) :
 Calls Tryz.prog 76 #[t.v] w fun e w'=>e=.returned (.int .i64 2)∧Below w.heap.size w w':=by
 obtain⟨c0,c1,c2,c3,c4,c5,c6,c7⟩:=ybp ht (Row.new w 81 t.cells)
 have hrng:=ya3 (Row.new w 81 t.cells)
 have hlen:=Tx.yag ht
 have HL:=yh hlen
 have Hrng:=yh hrng
 have Hrow:=yh (Row.new w 81 t.cells)
 have Ht:=yh ht
 clear hlen hrng
 clear ht
 show Calls _ _ #[.agg t.cells.toArray] _ _
 go_enter Tryz.func76,Tryz.ntmps76
 go_wp2_with (first
  | (go_at_call 106;with_reducible refine(within63 _ _).mono ?_;rintro e w' ⟨rfl,rfl⟩)
  | (go_at_call 106;with_reducible refine(within40 _ _).mono ?_;rintro e w' ⟨rfl,rfl⟩))
 go_ret
 exact⟨rfl,ya0 (yav _ _)⟩
theorem yiv (t:Tx)(ht:t.Ok)(w:World)(h1:Tx.acct t.frm=true)(h2:Tx.acct t.to=true)(h3:Tx.num t.nonce=true)(h4:Tx.num t.fee=true)(h5:t.lane=false)(k1:(t.round == 0)=false):
 Calls Tryz.prog 76 #[t.v] w fun e w'=>e=.returned (.int .i64 2)∧Below w.heap.size w w':=by
 obtain⟨c0,c1,c2,c3,c4,c5,c6,c7⟩:=ybp ht (Row.new w 81 t.cells)
 have hrng:=ya3 (Row.new w 81 t.cells)
 have hlen:=Tx.yag ht
 have HL:=yh hlen
 have Hrng:=yh hrng
 have Hrow:=yh (Row.new w 81 t.cells)
 have Ht:=yh ht
 clear hlen hrng
 have Hby:=yh (yca Ht.out Hrow.out).1
 have Hb32:=yh (Tx.yap _ Ht.out.bY)
 have k1':(t.round != 0)=true:=by simpa using k1
 clear ht
 show Calls _ _ #[.agg t.cells.toArray] _ _
 go_enter Tryz.func76,Tryz.ntmps76
 go_wp2_with (first
  | (go_at_call 106;with_reducible refine(within63 _ _).mono ?_;rintro e w' ⟨rfl,rfl⟩)
  | (go_at_call 106;with_reducible refine(within40 _ _).mono ?_;rintro e w' ⟨rfl,rfl⟩))
 go_ret
 exact⟨rfl,ya0 (yav _ _)⟩
theorem yiu (t:Tx)(ht:t.Ok)(w:World)(h1:Tx.acct t.frm=true)(h2:Tx.acct t.to=true)(h3:Tx.num t.nonce=true)(h4:Tx.num t.fee=true)(h5:t.lane=false)(k1:(t.round == 0)=true)(k2:(t.turn == 0)=false):
 Calls Tryz.prog 76 #[t.v] w fun e w'=>e=.returned (.int .i64 2)∧Below w.heap.size w w':=by
 obtain⟨c0,c1,c2,c3,c4,c5,c6,c7⟩:=ybp ht (Row.new w 81 t.cells)
 have hrng:=ya3 (Row.new w 81 t.cells)
 have hlen:=Tx.yag ht
 have HL:=yh hlen
 have Hrng:=yh hrng
 have Hrow:=yh (Row.new w 81 t.cells)
 have Ht:=yh ht
 clear hlen hrng
 have Hby:=yh (yca Ht.out Hrow.out).1
 have Hb32:=yh (Tx.yap _ Ht.out.bY)
 have k1':(t.round != 0)=false:=by simpa using k1
 have k2':(t.turn != 0)=true:=by simpa using k2
 clear ht
 show Calls _ _ #[.agg t.cells.toArray] _ _
 go_enter Tryz.func76,Tryz.ntmps76
 go_wp2_with (first
  | (go_at_call 106;with_reducible refine(within63 _ _).mono ?_;rintro e w' ⟨rfl,rfl⟩)
  | (go_at_call 106;with_reducible refine(within40 _ _).mono ?_;rintro e w' ⟨rfl,rfl⟩))
 go_ret
 exact⟨rfl,ya0 (yav _ _)⟩
theorem yiw (t:Tx)(ht:t.Ok)(w:World)(h1:Tx.acct t.frm=true)(h2:Tx.acct t.to=true)(h3:Tx.num t.nonce=true)(h4:Tx.num t.fee=true)(h5:t.lane=false)(k1:(t.round == 0)=true)(k2:(t.turn == 0)=true)(k3:t.bY≠Tx.zero):
 Calls Tryz.prog 76 #[t.v] w fun e w'=>e=.returned (.int .i64 2)∧Below w.heap.size w w':=by
 obtain⟨c0,c1,c2,c3,c4,c5,c6,c7⟩:=ybp ht (Row.new w 81 t.cells)
 have hrng:=ya3 (Row.new w 81 t.cells)
 have hlen:=Tx.yag ht
 have HL:=yh hlen
 have Hrng:=yh hrng
 have Hrow:=yh (Row.new w 81 t.cells)
 have Ht:=yh ht
 clear hlen hrng
 have Hby:=yh (yca Ht.out Hrow.out).1
 have Hb32:=yh (Tx.yap _ Ht.out.bY)
 have k1':(t.round != 0)=false:=by simpa using k1
 have k2':(t.turn != 0)=false:=by simpa using k2
 have heqs :∀W,(Op.equalIn 10000 62 (.agg (bRow t.bY)) (.agg #[.int .u8 0,.int .u8 0,.int .u8 0,.int .u8 0,.int .u8 0,.int .u8 0,.int .u8 0,.int .u8 0,.int .u8 0,.int .u8 0,.int .u8 0,.int .u8 0,.int .u8 0,.int .u8 0,.int .u8 0,.int .u8 0,.int .u8 0,.int .u8 0,.int .u8 0,.int .u8 0,.int .u8 0,.int .u8 0,.int .u8 0,.int .u8 0,.int .u8 0,.int .u8 0,.int .u8 0,.int .u8 0,.int .u8 0,.int .u8 0,.int .u8 0,.int .u8 0])).run Tryz.prog W=.ok false W:=fun W=>by rw[←yij];exact(yei W t.bY Tx.zero Ht.out.bY rfl).trans (by rw[decide_eq_false k3])
 clear k3
 clear ht
 show Calls _ _ #[.agg t.cells.toArray] _ _
 go_enter Tryz.func76,Tryz.ntmps76
 go_wp2_with (first
  | (go_at_call 106;with_reducible refine(within63 _ _).mono ?_;rintro e w' ⟨rfl,rfl⟩)
  | (go_at_call 106;with_reducible refine(within40 _ _).mono ?_;rintro e w' ⟨rfl,rfl⟩)
  | (with_reducible show wpList _ _ _ (⟨_,.load 62 _,_,_,_,_⟩::_) _ _;refine yac rfl 62 (.tmp 44) rfl w.heap.size 8 rfl (bRow t.bY).toList _ Hby.out Tryz.underlying62 rfl (by rw[yas,Hb32.out]) ?_))
 go_ret
 exact⟨rfl,ya0 (yav _ _)⟩
theorem ylj (t:Tx)(ht:t.Ok)(w:World)(h1:Tx.acct t.frm=true)(h2:Tx.acct t.to=true)(h3:Tx.num t.nonce=true)(h4:Tx.num t.fee=true)(h5:t.lane=true)(h6:Tx.num t.round=true)(h7:Tx.num t.turn=true)(h8:256<t.data.size) :
 Calls Tryz.prog 76 #[t.v] w fun e w'=>e=.returned (.int .i64 3)∧Below w.heap.size w w':=by
 obtain⟨c0,c1,c2,c3,c4,c5,c6,c7⟩:=ybp ht (Row.new w 81 t.cells)
 have hrng:=ya3 (Row.new w 81 t.cells)
 have hlen:=Tx.yag ht
 have HL:=yh hlen
 have Hrng:=yh hrng
 have Hrow:=yh (Row.new w 81 t.cells)
 have Ht:=yh ht
 clear hlen hrng
 have h8':(256:Int)<(t.data.size:Int):=by omega
 clear ht
 show Calls _ _ #[.agg t.cells.toArray] _ _
 go_enter Tryz.func76,Tryz.ntmps76
 go_wp2_with (first
  | (go_at_call 106;with_reducible refine(within63 _ _).mono ?_;rintro e w' ⟨rfl,rfl⟩)
  | (go_at_call 106;with_reducible refine(within40 _ _).mono ?_;rintro e w' ⟨rfl,rfl⟩))
 go_ret
 exact⟨rfl,ya0 (yav _ _)⟩
theorem ylq (t:Tx)(ht:t.Ok)(w:World)(h1:Tx.acct t.frm=true)(h2:Tx.acct t.to=true)(h3:Tx.num t.nonce=true)(h4:Tx.num t.fee=true)(h5:t.lane=true)(h6:Tx.num t.round=true)(h7:Tx.num t.turn=true)(h8:t.data.size≤256) :
 Calls Tryz.prog 76 #[t.v] w fun e w'=>e=.returned (.int .i64 0)∧Below w.heap.size w w':=by
 obtain⟨c0,c1,c2,c3,c4,c5,c6,c7⟩:=ybp ht (Row.new w 81 t.cells)
 have hrng:=ya3 (Row.new w 81 t.cells)
 have hlen:=Tx.yag ht
 have HL:=yh hlen
 have Hrng:=yh hrng
 have Hrow:=yh (Row.new w 81 t.cells)
 have Ht:=yh ht
 clear hlen hrng
 have h8':(t.data.size:Int)≤256:=by omega
 clear ht
 show Calls _ _ #[.agg t.cells.toArray] _ _
 go_enter Tryz.func76,Tryz.ntmps76
 go_wp2_with (first
  | (go_at_call 106;with_reducible refine(within63 _ _).mono ?_;rintro e w' ⟨rfl,rfl⟩)
  | (go_at_call 106;with_reducible refine(within40 _ _).mono ?_;rintro e w' ⟨rfl,rfl⟩))
 go_ret
 exact⟨rfl,ya0 (yav _ _)⟩
theorem yj6 (t:Tx)(ht:t.Ok)(w:World)(h1:Tx.acct t.frm=true)(h2:Tx.acct t.to=true)(h3:Tx.num t.nonce=true)(h4:Tx.num t.fee=true)(h5:t.lane=false)(h8:256<t.data.size)(k1:(t.round == 0)=true)(k2:(t.turn == 0)=true)(k3:t.bY=Tx.zero):
 Calls Tryz.prog 76 #[t.v] w fun e w'=>e=.returned (.int .i64 3)∧Below w.heap.size w w':=by
 obtain⟨c0,c1,c2,c3,c4,c5,c6,c7⟩:=ybp ht (Row.new w 81 t.cells)
 have hrng:=ya3 (Row.new w 81 t.cells)
 have hlen:=Tx.yag ht
 have HL:=yh hlen
 have Hrng:=yh hrng
 have Hrow:=yh (Row.new w 81 t.cells)
 have Ht:=yh ht
 clear hlen hrng
 have h8':(256:Int)<(t.data.size:Int):=by omega
 have Hby:=yh (yca Ht.out Hrow.out).1
 have Hb32:=yh (Tx.yap _ Ht.out.bY)
 have k1':(t.round != 0)=false:=by simpa using k1
 have k2':(t.turn != 0)=false:=by simpa using k2
 have heqs :∀W,(Op.equalIn 10000 62 (.agg (bRow t.bY)) (.agg #[.int .u8 0,.int .u8 0,.int .u8 0,.int .u8 0,.int .u8 0,.int .u8 0,.int .u8 0,.int .u8 0,.int .u8 0,.int .u8 0,.int .u8 0,.int .u8 0,.int .u8 0,.int .u8 0,.int .u8 0,.int .u8 0,.int .u8 0,.int .u8 0,.int .u8 0,.int .u8 0,.int .u8 0,.int .u8 0,.int .u8 0,.int .u8 0,.int .u8 0,.int .u8 0,.int .u8 0,.int .u8 0,.int .u8 0,.int .u8 0,.int .u8 0,.int .u8 0])).run Tryz.prog W=.ok true W:=fun W=>by rw[←yij];exact(yei W t.bY Tx.zero Ht.out.bY rfl).trans (by rw[decide_eq_true k3])
 clear k3
 clear ht
 show Calls _ _ #[.agg t.cells.toArray] _ _
 go_enter Tryz.func76,Tryz.ntmps76
 go_wp2_with (first
  | (go_at_call 106;with_reducible refine(within63 _ _).mono ?_;rintro e w' ⟨rfl,rfl⟩)
  | (go_at_call 106;with_reducible refine(within40 _ _).mono ?_;rintro e w' ⟨rfl,rfl⟩)
  | (with_reducible show wpList _ _ _ (⟨_,.load 62 _,_,_,_,_⟩::_) _ _;refine yac rfl 62 (.tmp 44) rfl w.heap.size 8 rfl (bRow t.bY).toList _ Hby.out Tryz.underlying62 rfl (by rw[yas,Hb32.out]) ?_))
 go_ret
 exact⟨rfl,ya0 (yav _ _)⟩
theorem yj7 (t:Tx)(ht:t.Ok)(w:World)(h1:Tx.acct t.frm=true)(h2:Tx.acct t.to=true)(h3:Tx.num t.nonce=true)(h4:Tx.num t.fee=true)(h5:t.lane=false)(h8:t.data.size≤256)(k1:(t.round == 0)=true)(k2:(t.turn == 0)=true)(k3:t.bY=Tx.zero):
 Calls Tryz.prog 76 #[t.v] w fun e w'=>e=.returned (.int .i64 0)∧Below w.heap.size w w':=by
 obtain⟨c0,c1,c2,c3,c4,c5,c6,c7⟩:=ybp ht (Row.new w 81 t.cells)
 have hrng:=ya3 (Row.new w 81 t.cells)
 have hlen:=Tx.yag ht
 have HL:=yh hlen
 have Hrng:=yh hrng
 have Hrow:=yh (Row.new w 81 t.cells)
 have Ht:=yh ht
 clear hlen hrng
 have h8':(t.data.size:Int)≤256:=by omega
 have Hby:=yh (yca Ht.out Hrow.out).1
 have Hb32:=yh (Tx.yap _ Ht.out.bY)
 have k1':(t.round != 0)=false:=by simpa using k1
 have k2':(t.turn != 0)=false:=by simpa using k2
 have heqs :∀W,(Op.equalIn 10000 62 (.agg (bRow t.bY)) (.agg #[.int .u8 0,.int .u8 0,.int .u8 0,.int .u8 0,.int .u8 0,.int .u8 0,.int .u8 0,.int .u8 0,.int .u8 0,.int .u8 0,.int .u8 0,.int .u8 0,.int .u8 0,.int .u8 0,.int .u8 0,.int .u8 0,.int .u8 0,.int .u8 0,.int .u8 0,.int .u8 0,.int .u8 0,.int .u8 0,.int .u8 0,.int .u8 0,.int .u8 0,.int .u8 0,.int .u8 0,.int .u8 0,.int .u8 0,.int .u8 0,.int .u8 0,.int .u8 0])).run Tryz.prog W=.ok true W:=fun W=>by rw[←yij];exact(yei W t.bY Tx.zero Ht.out.bY rfl).trans (by rw[decide_eq_true k3])
 clear k3
 clear ht
 show Calls _ _ #[.agg t.cells.toArray] _ _
 go_enter Tryz.func76,Tryz.ntmps76
 go_wp2_with (first
  | (go_at_call 106;with_reducible refine(within63 _ _).mono ?_;rintro e w' ⟨rfl,rfl⟩)
  | (go_at_call 106;with_reducible refine(within40 _ _).mono ?_;rintro e w' ⟨rfl,rfl⟩)
  | (with_reducible show wpList _ _ _ (⟨_,.load 62 _,_,_,_,_⟩::_) _ _;refine yac rfl 62 (.tmp 44) rfl w.heap.size 8 rfl (bRow t.bY).toList _ Hby.out Tryz.underlying62 rfl (by rw[yas,Hb32.out]) ?_))
 go_ret
 exact⟨rfl,ya0 (yav _ _)⟩
theorem Tx.ygu {t:Tx} : t.plain=true↔((t.round == 0)=true∧(t.turn == 0)=true∧t.bY=Tx.zero):=by simp[Tx.plain]
theorem ylk (t:Tx)(ht:t.Ok)(w:World)(h1:Tx.acct t.frm=true)(h2:Tx.acct t.to=true)(h3:Tx.num t.nonce=true)(h4:Tx.num t.fee=true)(h5:t.lane=false)(h6:t.plain=false):
 Calls Tryz.prog 76 #[t.v] w fun e w'=>e=.returned (.int .i64 2)∧Below w.heap.size w w':=by
 rcases Bool.eq_false_or_eq_true (t.round == 0)with k1|k1
 · rcases Bool.eq_false_or_eq_true (t.turn == 0)with k2|k2
   · by_cases k3:t.bY=Tx.zero
     · rw[Tx.ygu.2 ⟨k1,k2,k3⟩]at h6;cases h6
     · exact yiw t ht w h1 h2 h3 h4 h5 k1 k2 k3
   · exact yiu t ht w h1 h2 h3 h4 h5 k1 k2
 · exact yiv t ht w h1 h2 h3 h4 h5 k1
theorem yli (t:Tx)(ht:t.Ok)(w:World)(h1:Tx.acct t.frm=true)(h2:Tx.acct t.to=true)(h3:Tx.num t.nonce=true)(h4:Tx.num t.fee=true)(h5:t.lane=false)(h6:t.plain=true)(h8:256<t.data.size):
 Calls Tryz.prog 76 #[t.v] w fun e w'=>e=.returned (.int .i64 3)∧Below w.heap.size w w':=by
 obtain⟨k1,k2,k3⟩:=Tx.ygu.1 h6
 exact yj6 t ht w h1 h2 h3 h4 h5 h8 k1 k2 k3
theorem ylp (t:Tx)(ht:t.Ok)(w:World)(h1:Tx.acct t.frm=true)(h2:Tx.acct t.to=true)(h3:Tx.num t.nonce=true)(h4:Tx.num t.fee=true)(h5:t.lane=false)(h6:t.plain=true)(h8:t.data.size≤256):
 Calls Tryz.prog 76 #[t.v] w fun e w'=>e=.returned (.int .i64 0)∧Below w.heap.size w w':=by
 obtain⟨k1,k2,k3⟩:=Tx.ygu.1 h6
 exact yj7 t ht w h1 h2 h3 h4 h5 h8 k1 k2 k3
theorem yc1 (t:Tx)(ht:t.Ok)(w:World):
 Calls Tryz.prog 76 #[t.v] w fun e w'=>e=.returned (.int .i64 t.err)∧Below w.heap.size w w':=by
 rcases Bool.eq_false_or_eq_true (Tx.acct t.frm)with h1|h1
 · rcases Bool.eq_false_or_eq_true (Tx.acct t.to)with h2|h2
   · rcases Bool.eq_false_or_eq_true (Tx.num t.nonce)with h3|h3
     · rcases Bool.eq_false_or_eq_true (Tx.num t.fee)with h4|h4
       · rcases Bool.eq_false_or_eq_true t.lane with h5|h5
         · rcases Bool.eq_false_or_eq_true (Tx.num t.round)with h6|h6
           · rcases Bool.eq_false_or_eq_true (Tx.num t.turn)with h7|h7
             · rcases Nat.lt_or_ge 256 t.data.size with h8|h8
               · rw[Tx.yri h1 h2 h3 h4 h5 h6 h7 h8];exact ylj t ht w h1 h2 h3 h4 h5 h6 h7 h8
               · rw[Tx.yrp h1 h2 h3 h4 h5 h6 h7 h8];exact ylq t ht w h1 h2 h3 h4 h5 h6 h7 h8
             · rw[Tx.yrk h1 h2 h3 h4 h5 h6 h7];exact yll t ht w h1 h2 h3 h4 h5 h6 h7
           · rw[Tx.yrl h1 h2 h3 h4 h5 h6];exact ylm t ht w h1 h2 h3 h4 h5 h6
         · rcases Bool.eq_false_or_eq_true t.plain with h6|h6
           · rcases Nat.lt_or_ge 256 t.data.size with h8|h8
             · rw[Tx.yrh h1 h2 h3 h4 h5 h6 h8];exact yli t ht w h1 h2 h3 h4 h5 h6 h8
             · rw[Tx.yro h1 h2 h3 h4 h5 h6 h8];exact ylp t ht w h1 h2 h3 h4 h5 h6 h8
           · rw[Tx.yrj h1 h2 h3 h4 h5 h6];exact ylk t ht w h1 h2 h3 h4 h5 h6
       · rw[Tx.yrm h1 h2 h3 h4];exact yln t ht w h1 h2 h3 h4
     · rw[Tx.yrn h1 h2 h3];exact ylo t ht w h1 h2 h3
   · rw[Tx.ym0 h1 h2];exact yj8 t ht w h1 h2
 · rw[Tx.ym1 h1];exact yj9 t ht w h1
end
section
open Go.RowKit
theorem ygi {P:Program}{ops:Array Oper}{o:Oper}{a:Act}{w:World}{K:Act→World→Prop}{Q:Exit→Act→World→Prop}{E:Prop}
 (hg:o.guard=none) (s x:Operand) (t:TypeId) (hop:o.op=Op.call { callee:=Callee.builtin Builtin.append,args:=#[s,x],argTypes:=#[t,t] })
 (base:Nat) (e:TypeId) (i:TypeInfo) (z:Value) (size bytes:Nat) (ht:P.underlying t=some (.slice e)) (hi:P.info? e=some i) (hz:i.zero=some z)
 (hsize:i.size=size) (hby:i.bytes=bytes) (hzs:z.cells.size=size) (hsz:0<size)
 (v:Value) (n:Nat) (xs:List Value) (hs:a.eval s=v) (hown:w.ownsRow base e size v n xs)
 (ad:Addr) (m c:Nat) (news:List Value) (hx:a.eval x=.slice (some ad) m c) (hl:news.length=m*size) (hnews :∀j u,news[j]? = some u→w.cell? (ad.add j)=some u) (h1 :∀u∈news,u.oneCell'=true) (hm:0<m)
 (h63:n+m≤maxLen) (hbytes:((n+m)+(n+m) / 4+192)*bytes≤281474976710656) (hbase:base≤w.heap.size)
 (h :∀g cap w',w'.ownsRow base e size (.slice (some ⟨g,0,none⟩) (n+m) cap) (n+m) (xs++news)→w.grownBy w' v.ownBlock→K (a.put o.dst (.slice (some ⟨g,0,none⟩) (n+m) cap)) w'):
 if Region.wanted o (yielded ops a.tmps)=true then Oper.wp P o a w K Q else E:=by
 have hw:Region.wanted o (yielded ops a.tmps)=true:=by simp[Region.wanted,hg]
 rw[if_pos hw]
 refine wp_append_own_wide w s x t hop base e i z size bytes ht hi hz hsize hby hzs hsz v n xs hs hown ad m c news hx hl hnews h1 h63 hbytes hbase fun v' w' h2 h3 h4=>?_
 obtain⟨m',rfl⟩ :∃m',m=m'+1:=⟨m-1,by omega⟩
 obtain⟨g,cap,rfl⟩:=ownsRow_succ h2
 exact h g cap w' h2 h3
end
section
open Go.RowKit
def VarT (w:World)(base B:Nat)(L:List (List UInt8)):Prop:=
 ∃v,Row w B 56 [v]∧w.ownsRow base 9 1 v L.length (L.map S)
theorem ycm {w:World}{base B n:Nat}{t:TypeId}{v:Value}{xs ys:List Value}(hv:Row w B t ys)(ht:t≠9)(hown:w.ownsRow base 9 1 v n xs):some B≠v.ownBlock:=by
 intro e
 rcases hown.2 with⟨rfl,_⟩|⟨g,cap,cur,rfl,hg,hh,_⟩
 · simp[Value.ownBlock]at e
 · simp only[Value.ownBlock,Option.some.injEq]at e
   subst e
   unfold Row at hv
   rw[hh]at hv
   simp at hv
   exact ht hv.2.symm
theorem yka (n:Int)(w:World)(h0:0≤n)(h1:n≤9223372036854775807):
 Calls Tryz.prog 90 #[.int .i64 n] w fun e w'=>e=.returned (.tuple #[S (Oct.num n.toNat),.int .i64 0])∧Below w.heap.size w w':=by
 have:=ydm n w h1
 unfold Oct.numE at this
 rw[if_neg (by omega)]at this
 exact this
theorem yge {w w1:World}{base B nb:Nat}{L:List (List UInt8)}{v v':Value}{s:List UInt8}{Q:List Value}{tq:TypeId}(hv:Row w B 56 [v])(hown:w.ownsRow base 9 1 v L.length (L.map S))
 (hown':w1.ownsRow base 9 1 v' (L.length+1) (L.map S ++ [S s])) (hgrow:w.grownBy w1 v.ownBlock) (hB:base≤B):
 w1.cell? ⟨B,0,none⟩=some v∧w1.frozen? ⟨B,0,none⟩=false∧VarT (w1.setCell ⟨B,0,none⟩ v') base B (L ++ [s])∧(∀a,Below base a w→Below base a (w1.setCell ⟨B,0,none⟩ v')):=by
 have hv1:=hv.kept hgrow (ycm hv (by decide) hown)
 have hv1c:=hv1.cell 0 (by simp)
 refine⟨hv1c,hv1.free 0,⟨v',hv1.set 0 v' (by simp),?_⟩,fun a ha=>?_⟩
 · have:=ownsRow_setCell_other hown' (fun e=>ycm hv1 (by decide) hown' e.symm) (a:=⟨B,0,none⟩) v'
   simpa using this
 · exact(ha.grown hgrow (by have:=ha.size;have:=hv.lt;omega) (fun k hk=>(hown.lt k hk).1)).setCell hB _
theorem yqj {w w1:World}{base B nb:Nat}{L:List (List UInt8)}{v v':Value}{ns:List Int}(hv:Row w B 56 [v])(hown:w.ownsRow base 9 1 v L.length (L.map S))(hgrow:w.grownBy w1 v.ownBlock)(hN:Row w nb 3 (Is ns)):
 Row (w1.setCell ⟨B,0,none⟩ v') nb 3 (Is ns):=by
 have hne:nb≠B:=by
  rintro rfl
  unfold Row at hv hN
  rw[hv]at hN
  simp at hN
 exact(hN.kept hgrow (ycm hN (by decide) hown)).kept (yaq w1 B 0 v') (by simpa using hne)
theorem ydy:(Tryz.prog.info? 9).map (fun i=>(i.zero,i.size,i.bytes))=some (some (.string ByteArray.empty),1,16):=by kernel_rfl
theorem yfx (w:World)(t:TypeId)(s:List UInt8) :∀j u,[S s][j]? = some u→(w.alloc (.cells #[S s] t)).cell? ((⟨w.heap.size,0,none⟩:Addr).add j)=some u:=by
 intro j u hj
 match j,hj with
 | 0,hj=>
   simp at hj
   subst hj
   simp[Addr.add]
theorem yey (s:List UInt8) :∀u∈[S s],u.oneCell'=true:=by
 intro u hu
 simp at hu
 subst hu
 rfl
theorem yq5 (ns:List Int)(c:Nat)(hns :∀n∈ns,0≤n∧n≤9223372036854775807)(w:World)(base B nb:Nat)(L:List (List UInt8))(hV:VarT w base B L)(hB:base≤B)(hN:Row w nb 3 (Is ns))(hlen:L.length+ns.length≤1000):
 Calls Tryz.prog 197 #[.slice (some ⟨nb,0,none⟩) ns.length c,.pointer (some ⟨B,0,none⟩)] w fun e w'=>e=.returned (.tuple #[])∧VarT w' base B (L++ns.map fun n=>Oct.num n.toNat)∧Below base w w':=by
 obtain⟨i0,hi,h2⟩:=Option.map_eq_some_iff.1 ydy
 simp only[Prod.mk.injEq]at h2
 obtain⟨hz,hs,hby⟩:=h2
 have Hi:=yh hi
 have Hz:=yh hz
 have Hs:=yh hs
 have Hby:=yh hby
 have HV:=yh hV
 have HN:=yh hN
 have Hns:=yh hns
 have hBw:base≤w.heap.size:=by obtain⟨v,h,_⟩:=hV;have:=h.lt;omega
 obtain⟨m,hm⟩ :∃m,m=ns.length:=⟨_,rfl⟩
 rw[←hm]at hlen ⊢
 have Hm:=yh hm
 clear hi hz hs hby hV hN hns hm
 go_enter Tryz.func197,Tryz.ntmps197
 go_wp2_with fail
 go_loopw [9] (fun i wr =>∃k:Nat,k≤m∧i=.int .i64 k∧VarT wr base B (L++(ns.take k).map fun n=>Oct.num n.toNat)∧Row wr nb 3 (Is ns)∧Below base w wr) (fun i _=>m-(intOf i).toNat)
 case atStart=>exact⟨0,Nat.zero_le _,rfl,by simpa using HV.out,HN.out,Below.refl _ _⟩
 case round=>
  obtain⟨k,hk,rfl,hVr,hNr,hbr⟩:=hrel
  obtain⟨v,hv,hown⟩:=hVr
  have HNr:=yh hNr
  have Hbr:=yh hbr
  have Hv:=yh hv
  have Hown:=yh hown
  clear hNr hbr hv hown
  by_cases hlt:k<m
  · have hki:(k:Int)<(m:Int):=by omega
    have hkn:k<ns.length:=by rw[←Hm.out];exact hlt
    have cn:=HNr.out.num k hkn
    obtain⟨x,hx⟩ :∃x,x=ns.getD k 0:=⟨_,rfl⟩
    have hxn:ns[k]=x:=by rw[hx];simp[List.getD,hkn]
    have hxb:=Hns.out x (by rw[←hxn];exact List.getElem_mem hkn)
    have htk:(L++(ns.take (k+1)).map fun n=>Oct.num n.toNat)=(L++(ns.take k).map fun n=>Oct.num n.toNat) ++ [Oct.num x.toNat]:=by
     rw[List.take_succ_eq_append_getElem hkn,List.map_append,List.append_assoc,hxn];rfl
    rw[←hx]at cn
    have Htk:=yh htk
    have hLl:(L++(ns.take k).map fun n=>Oct.num n.toNat).length≤1000:=by
     rw[List.length_append,List.length_map,List.length_take];omega
    generalize (L++(ns.take k).map fun n=>Oct.num n.toNat)=K at *
    clear htk hx hxn hkn
    go_wp2_with fail
    refine(yka x _ hxb.1 hxb.2).mono ?_
    rintro _ w1 ⟨rfl,hb1⟩
    have hg1:=yae hb1 none
    have hv1:=Hv.out.kept hg1 (by simp)
    have hown1:=Hown.out.kept hg1 (by cases v.ownBlock <;> simp)
    have hN1:=HNr.out.kept hg1 (by simp)
    have hb1':Below base w w1:=Hbr.out.grown hg1 (Nat.le_trans hBw Hbr.out.size) (fun k hk=>by cases hk)
    have hv2:=hv1.kept (yaw w1 (.cells #[S (Oct.num x.toNat)] 9) none) (by simp)
    have hown2:=hown1.alloc (.cells #[S (Oct.num x.toNat)] 9)
    have hN2:=hN1.kept (yaw w1 (.cells #[S (Oct.num x.toNat)] 9) none) (by simp)
    have hb2:Below base w (w1.alloc (.cells #[S (Oct.num x.toNat)] 9)):=hb1'.alloc (Nat.le_trans hBw hb1'.size) _
    have cv:=hv1.cell 0 (by simp)
    have hlt1:=hv1.lt
    simp only[List.getElem_cons_zero]at cv
    have hsz2:base≤(w1.alloc (.cells #[S (Oct.num x.toNat)] 9)).heap.size:=Nat.le_trans hBw hb2.size
    have hk63:K.length+1≤maxLen:=by unfold maxLen;omega
    have hk48:((K.length+1)+(K.length+1) / 4+192)*16≤281474976710656:=by omega
    have Hv2:=yh hv2
    have Hown2:=yh hown2
    have HN2:=yh hN2
    have Hb2:=yh hb2
    clear hb1 hg1 hv1 hown1 hN1 hb1' hv2 hown2 hN2 hb2 Hv Hown HNr Hbr cn
    go_wp2_with (at_builtin; refine wpList_append_own_wide _ rfl (.tmp 18) (.tmp 20) 56 rfl base 9 i0 (.string ByteArray.empty) 1 16 Tryz.underlying56 Hi.out Hz.out Hs.out Hby.out rfl (by decide) _ _ _ rfl Hown2.out ⟨w1.heap.size, 0, none⟩ 1 1 [S (Oct.num x.toNat)] rfl rfl (yfx _ _ _) (yey _) hk63 hk48 hsz2 ?_
                 intro v' w3 hown3 hgrow3 _
                 obtain⟨g,cap,rfl⟩:=ownsRow_succ hown3
                 obtain⟨cB,fB,hV3,hb3⟩:=yge (nb:=nb) (Q:=[]) (tq:=0) Hv2.out Hown2.out hown3 hgrow3 hB
                 have hN3:=yqj (v':=.slice (some ⟨g,0,none⟩) (K.length+1) cap) Hv2.out Hown2.out hgrow3 HN2.out
                 have HV3:=yh hV3
                 have Hb3:=yh (hb3 w Hb2.out)
                 have HN3:=yh hN3
                 clear hown3 hgrow3 hV3 hb3 hN3 cv)
    refine⟨⟨k+1,hlt,by go_num,by rw[Htk.out];exact HV3.out,HN3.out,Hb3.out⟩,by simp[intOf];omega⟩
  · have hki:(m:Int)≤(k:Int):=by omega
    have ekm:k=m:=by omega
    have hfin:VarT wr base B (L++ns.map fun n=>Oct.num n.toNat):=by
     refine⟨v,Hv.out,?_⟩
     have h:=Hown.out
     rw[show ns.take k=ns by rw[ekm,Hm.out,List.take_length]]at h
     exact h
    have Hfin:=yh hfin
    clear hfin ekm
    go_wp2_with fail
    go_end0
    exact⟨rfl,Hfin.out,Hbr.out⟩
end
section
open Go.RowKit
namespace Tx
def lays (t:Tx):List (List UInt8):=[Oct.num t.frm.toNat,Oct.num t.nonce.toNat,Oct.num t.fee.toNat,Oct.num t.to.toNat]
def fields (t:Tx):List (List UInt8):=(t.lays ++ [t.data.data.toList])++(if t.lane=true then [Oct.num t.round.toNat,Oct.num t.turn.toNat] else [])
def bodyE (t:Tx):List UInt8×Int:=if t.err=0 then Oct.listE t.fields else ([],t.err)
theorem yt3 {t:Tx}(h:t.err=0):(0≤t.frm∧t.frm≤63)∧(0≤t.nonce∧t.nonce≤1099511627776)∧(0≤t.fee∧t.fee≤1099511627776)∧(0≤t.to∧t.to≤63)∧(t.lane=true→(0≤t.round∧t.round≤1099511627776)∧(0≤t.turn∧t.turn≤1099511627776))∧(t.lane=false→t.round=0∧t.turn=0∧t.bY=zero)∧t.data.size≤256:=by
 unfold err at h
 split at h
 · omega
 next h1=>
 split at h
 · omega
 next h2=>
 split at h
 · omega
 next h3=>
 split at h
 · omega
 next h4=>
 simp only[not_or,Bool.not_eq_false,not_and,acct,num,plain,Bool.and_eq_true,decide_eq_true_eq]at h1 h2 h3
 refine⟨h1.1,h2.1,h2.2,h1.2,fun hl=>?_,fun hl=>?_,by omega⟩
 · have:=h3.1 hl
   exact this
 · exact h3.2 hl
end Tx
theorem ypv {w w':World}{base g:Nat}{t:TypeId}{xs:List Value}(h:Row w g t xs)(hb:Below base w w')(hlt:g<base):Row w' g t xs:=(hb.block g hlt).trans h
theorem below_own {w0 W W':World}{r:Option Nat}(h:Below w0.heap.size w0 W)(hg:W.grownBy W' r)(hr :∀k,r=some k→w0.heap.size≤k):Below w0.heap.size w0 W':=h.grown hg h.size hr
theorem ykw {w0 W:World}{g i:Nat}{v:Value}(h:Below w0.heap.size w0 W)(hg:w0.heap.size≤g):Below w0.heap.size w0 (W.setCell ⟨g,i,none⟩ v):=
 h.grown (yaq W g i v) h.size (fun k hk=>by cases hk;exact hg)
theorem yi4 (L:List (List UInt8))(base g k cap:Nat)(W:World)(h:W.ownsRow base 9 1 (.slice (some ⟨g,0,none⟩) k cap) k (L.map S))(hk:k=L.length):
 Calls Tryz.prog 95 #[.slice (some ⟨g,0,none⟩) k cap] W fun e w'=>e=.returned (.tuple #[S (Oct.listE L).1,.int .i64 (Oct.listE L).2])∧Below W.heap.size W w':=by
 subst hk
 obtain⟨A,c,hA,hT⟩:=ycy h
 obtain⟨rfl,rfl⟩:some (⟨g,0,none⟩:Addr)=A∧cap=c:=by simpa using hA
 exact ym8 _ _ L W hT
theorem ymr {w w1:World}{base B:Nat}{L:List (List UInt8)}{v v':Value}{s:List UInt8}(hv:Row w B 56 [v])(hown:w.ownsRow base 9 1 v L.length (L.map S))
 (hown':w1.ownsRow base 9 1 v' (L.length+1) (L.map S ++ [S s])) (hgrow:w.grownBy w1 v.ownBlock):(w1.setCell ⟨B,0,none⟩ v').ownsRow base 9 1 v' (L.length+1) ((L ++ [s]).map S):=by
 have hv1:=hv.kept hgrow (ycm hv (by decide) hown)
 have:=ownsRow_setCell_other hown' (fun e=>ycm hv1 (by decide) hown' e.symm) (a:=⟨B,0,none⟩) v'
 simpa using this
theorem yu8 (t:Tx)(ht:t.Ok)(w:World)(he:t.err≠0):
 Calls Tryz.prog 182 #[t.v] w fun e w'=>e=.returned (two (t.bodyE).1 (t.bodyE).2)∧Below w.heap.size w w':=by
 unfold Tx.bodyE
 rw[if_neg he]
 have hrng:=ya3 (Row.new w 81 t.cells)
 have hlen:=Tx.yag ht
 have CH:Hid (∀W,Calls Tryz.prog 181 #[.agg t.cells.toArray] W fun e w'=>e=.returned (.int .i64 t.err)∧Below W.heap.size W w'):=fun W=>yfg t ht W
 have hne:(t.err != 0)=true:=by simpa using he
 show Calls _ _ #[.agg t.cells.toArray] _ _
 generalize t.cells=C at *
 generalize t.err=er at *
 have HL:=yh hlen
 have Hrng:=yh hrng
 clear hlen hrng he ht
 go_enter Tryz.func182,Tryz.ntmps182
 go_wp2_with (with_reducible show wpList _ _ _ (⟨_,.load 81 _,_,_,_,_⟩::_) _ _;refine yac rfl 81 (.tmp 1) rfl w.heap.size 0 rfl C _ Hrng.out Tryz.underlying81 rfl (by rw[yam,HL.out]) ?_)
 refine(CH.out _).mono ?_
 rintro _ w1 ⟨rfl,hb1⟩
 have Hb1:=yh (ya0 (yae hb1 none))
 clear hb1
 go_wp2_with fail
 go_ret2
 exact⟨rfl,Hb1.out⟩
theorem yu7 (t:Tx)(ht:t.Ok)(w:World)(he:t.err=0):
 Calls Tryz.prog 182 #[t.v] w fun e w'=>e=.returned (two (t.bodyE).1 (t.bodyE).2)∧Below w.heap.size w w':=by
 have hB:t.bodyE=Oct.listE t.fields:=by unfold Tx.bodyE;rw[if_pos he]
 rw[hB]
 obtain⟨i0,hi,h2⟩:=Option.map_eq_some_iff.1 ydy
 simp only[Prod.mk.injEq]at h2
 obtain⟨hz,hs,hby⟩:=h2
 have Hi:=yh hi
 have Hz:=yh hz
 have Hs:=yh hs
 have Hby:=yh hby
 obtain⟨k1,k2,k3,k4,k5,k6,k7⟩:=Tx.yt3 he
 have hrow0:=Row.new w 81 t.cells
 have hrng:=ya3 hrow0
 have hlen:=Tx.yag ht
 have CH:Hid (∀W,Calls Tryz.prog 181 #[.agg t.cells.toArray] W fun e w'=>e=.returned (.int .i64 0)∧Below W.heap.size W w'):=fun W=>by
  have:=yfg t ht W
  rw[he]at this
  exact this
 have BX:Hid (∀(W:World) (g:Nat) (T:TypeId),Row W g T t.cells→W.cell? ⟨g,0,none⟩=some (.int .i64 t.frm)∧W.cell? ⟨g,1,none⟩=some (.int .i64 t.nonce)∧W.cell? ⟨g,2,none⟩=some (.int .i64 t.fee)∧W.cell? ⟨g,3,none⟩=some (.int .i64 t.to)∧
  W.cell? ⟨g,4,none⟩=some (.string t.data)∧W.cell? ⟨g,5,none⟩=some (.bool t.lane)∧W.cell? ⟨g,6,none⟩=some (.int .i64 t.round)∧W.cell? ⟨g,7,none⟩=some (.int .i64 t.turn)):=fun W g T h=>ybp ht h
 have L1:Hid (∀(W:World) (B nb:Nat),VarT W B B []→Row W nb 3 (Is [t.frm,t.nonce,t.fee,t.to])→Calls Tryz.prog 197 #[.slice (some ⟨nb,0,none⟩) 4 4,.pointer (some ⟨B,0,none⟩)] W fun e w'=>e=.returned (.tuple #[])∧VarT w' B B t.lays∧Below B W w'):=fun W B nb hV hN=>by
  have:=yq5 [t.frm,t.nonce,t.fee,t.to] 4 (by intro n hn;simp at hn;rcases hn with rfl|rfl|rfl|rfl <;> omega) W B B nb [] hV (Nat.le_refl _) hN (by simp)
  exact this
 have L2:Hid (∀(W:World) (B nb:Nat),VarT W B B (t.lays ++ [t.data.data.toList])→t.lane=true→Row W nb 3 (Is [t.round,t.turn])→Calls Tryz.prog 197 #[.slice (some ⟨nb,0,none⟩) 2 2,.pointer (some ⟨B,0,none⟩)] W fun e w'=>e=.returned (.tuple #[])∧VarT w' B B t.fields∧Below B W w'):=fun W B nb hV hl hN=>by
  have hb:=k5 hl
  have:=yq5 [t.round,t.turn] 2 (by intro n hn;simp at hn;rcases hn with rfl|rfl <;> omega) W B B nb (t.lays ++ [t.data.data.toList]) hV (Nat.le_refl _) hN (by simp[Tx.lays])
  unfold Tx.fields
  rw[if_pos hl]
  exact this
 have hfl:t.lane=false→t.fields=t.lays ++ [t.data.data.toList]:=by
  intro h
  unfold Tx.fields
  rw[if_neg (by rw[h];simp),List.append_nil]
 have Hfl:=yh hfl
 have hmf :∀(fn:Fn) (first cap:Array Value) (w:World),(Instr.makeFunc fn first cap).run Tryz.prog w=.ok (.func fn first cap) w:=fun _ _ _ _=>rfl
 have hS:S t.data.data.toList=.string t.data:=rfl
 have hl5:t.lays.length=4:=rfl
 show Calls _ _ #[.agg t.cells.toArray] _ _
 generalize hLy:t.lays=Ly at *
 generalize t.cells=C at *
 have HL:=yh hlen
 have Hrng:=yh hrng
 have Hrow0:=yh hrow0
 have HSd:=yh hS
 have Hl5:=yh hl5
 clear hi hz hs hby hrow0 hlen hrng hfl hB he ht k1 k2 k3 k4 k5 k6 k7 hLy hS hl5
 go_enter Tryz.func182,Tryz.ntmps182
 go_wp2_with (with_reducible show wpList _ _ _ (⟨_,.load 81 _,_,_,_,_⟩::_) _ _;refine yac rfl 81 (.tmp 1) rfl w.heap.size 0 rfl C _ Hrng.out Tryz.underlying81 rfl (by rw[yam,HL.out]) ?_)
 refine(CH.out _).mono ?_
 rintro _ w1 ⟨rfl,hb1⟩
 have hg1:=yae hb1 none
 have hr1:=Hrow0.out.kept hg1 (by simp)
 obtain⟨c0,c1,c2,c3,c4,c5,c6,c7⟩:=BX.out _ _ _ hr1
 have hlt1:=hr1.lt
 have Hb1:=yh (ya0 hg1)
 have Hr1:=yh hr1
 clear hb1 hg1 hr1 Hrng
 go_wp2_with fail
 have hV0:VarT ((w1.alloc (.cells #[.slice none 0 0] 56)).alloc (.cells #[.int .i64 t.frm,.int .i64 t.nonce,.int .i64 t.fee,.int .i64 t.to] 3)) w1.heap.size w1.heap.size []:=
  ⟨.slice none 0 0,(Row.new w1 _ [.slice none 0 0]).kept (yaw _ _ none) (by simp),World.ownsRow_nil _ _ _ _⟩
 have hN0:Row ((w1.alloc (.cells #[.slice none 0 0] 56)).alloc (.cells #[.int .i64 t.frm,.int .i64 t.nonce,.int .i64 t.fee,.int .i64 t.to] 3)) (w1.heap.size+1) 3 (Is [t.frm,t.nonce,t.fee,t.to]):=by
  have h:=Row.new (w1.alloc (.cells #[.slice none 0 0] 56)) 3 (Is [t.frm,t.nonce,t.fee,t.to])
  rw[show∀(W:World) (o:Obj),(W.alloc o).heap.size=W.heap.size+1 from fun W o=>by simp]at h
  exact h
 have hR0:Row ((w1.alloc (.cells #[.slice none 0 0] 56)).alloc (.cells #[.int .i64 t.frm,.int .i64 t.nonce,.int .i64 t.fee,.int .i64 t.to] 3)) w.heap.size 81 C:=
  (Hr1.out.kept (yaw _ _ none) (by simp)).kept (yaw _ _ none) (by simp)
 have hB0:Below w.heap.size w ((w1.alloc (.cells #[.slice none 0 0] 56)).alloc (.cells #[.int .i64 t.frm,.int .i64 t.nonce,.int .i64 t.fee,.int .i64 t.to] 3)):=
  (Hb1.out.alloc Hb1.out.size _).alloc (by have:=Hb1.out.size;simp;omega) _
 refine(L1.out _ _ _ hV0 hN0).mono ?_
 rintro _ w3 ⟨rfl,hV3,hb3⟩
 have hr3:=ypv hR0 hb3 hlt1
 have hbt3:Below w.heap.size w w3:=hB0.trans (hb3.mono (by omega))
 obtain⟨v3,hv3,ho3⟩:=hV3
 have cv3:=hv3.cell 0 (by simp)
 simp only[List.getElem_cons_zero]at cv3
 obtain⟨d0,d1,d2,d3,d4,d5,d6,d7⟩:=BX.out _ _ _ hr3
 have hlt3:=hv3.lt
 have hv3a:=hv3.kept (yaw w3 (.cells #[S t.data.data.toList] 9) none) (by simp)
 have ho3a:=ho3.alloc (.cells #[S t.data.data.toList] 9)
 have hb3a:Below w.heap.size w (w3.alloc (.cells #[S t.data.data.toList] 9)):=hbt3.alloc hbt3.size _
 have hr3a:=hr3.kept (yaw w3 (.cells #[S t.data.data.toList] 9) none) (by simp)
 have hz3:w1.heap.size≤(w3.alloc (.cells #[S t.data.data.toList] 9)).heap.size:=by simp;omega
 have Hv3a:=yh hv3a
 have Ho3a:=yh ho3a
 have Hb3a:=yh hb3a
 have Hr3a:=yh hr3a
 have hk63:Ly.length+1≤maxLen:=by have:=Hl5.out;unfold maxLen;omega
 have hk48:((Ly.length+1)+(Ly.length+1) / 4+192)*16≤281474976710656:=by have:=Hl5.out;omega
 clear hV0 hN0 hR0 hB0 hb3 hr3 hbt3 hv3 ho3 hv3a ho3a hb3a hr3a c0 c1 c2 c3 c4 c5 c6 c7 d0 d1 d2 d3 d5 d6 d7 Hb1 Hr1
 rcases Bool.eq_false_or_eq_true t.lane with hl|hl
 · have Hlane:=yh hl
   go_wp2_with (at_builtin; refine wpList_append_own_wide _ rfl (.tmp 24) (.tmp 27) 56 rfl w1.heap.size 9 i0 (.string ByteArray.empty) 1 16 Tryz.underlying56 Hi.out Hz.out Hs.out Hby.out rfl (by decide) v3 Ly.length (Ly.map S) rfl Ho3a.out ⟨w3.heap.size, 0, none⟩ 1 1 [S t.data.data.toList] rfl rfl (yfx _ _ _) (yey _) hk63 hk48 hz3 ?_
                intro v' w4 hown4 hgrow4 _
                obtain⟨g,cap,rfl⟩:=ownsRow_succ hown4
                obtain⟨cB,fB,hV4,hb4⟩:=yge (nb:=0) (Q:=[]) (tq:=0) Hv3a.out Ho3a.out hown4 hgrow4 (Nat.le_refl _)
                have hr4:Row (w4.setCell ⟨w1.heap.size,0,none⟩ (.slice (some ⟨g,0,none⟩) (Ly.length+1) cap)) w.heap.size 81 C:=(Hr3a.out.kept hgrow4 (ycm Hr3a.out (by decide) Ho3a.out)).kept (yaq w4 w1.heap.size 0 _) (by simp;omega)
                have hbt4:Below w.heap.size w (w4.setCell ⟨w1.heap.size,0,none⟩ (.slice (some ⟨g,0,none⟩) (Ly.length+1) cap)):=ykw (below_own Hb3a.out hgrow4 (fun k hk=>by have:=(Ho3a.out.lt k hk).1;omega)) (by omega)
                obtain⟨e0,e1,e2,e3,e4,e5,e6,e7⟩:=BX.out _ _ _ (Hr3a.out.kept hgrow4 (ycm Hr3a.out (by decide) Ho3a.out))
                have ho4:=ymr Hv3a.out Ho3a.out hown4 hgrow4
                have Ho4:=yh ho4
                have HV4:=yh hV4
                have Hr4:=yh hr4
                have Hbt4:=yh hbt4
                clear ho4 hown4 hgrow4 hV4 hb4 hr4 hbt4 cv3 d4)
   have hN4:Row ((w4.setCell ⟨w1.heap.size,0,none⟩ (.slice (some ⟨g,0,none⟩) (Ly.length+1) cap)).alloc (.cells #[.int .i64 t.round,.int .i64 t.turn] 3)) w4.heap.size 3 (Is [t.round,t.turn]):=by
    have h:=Row.new (w4.setCell ⟨w1.heap.size,0,none⟩ (.slice (some ⟨g,0,none⟩) (Ly.length+1) cap)) 3 (Is [t.round,t.turn])
    rw[show (w4.setCell ⟨w1.heap.size,0,none⟩ (.slice (some ⟨g,0,none⟩) (Ly.length+1) cap)).heap.size=w4.heap.size by simp[World.setCell]]at h
    exact h
   have hV4:VarT ((w4.setCell ⟨w1.heap.size,0,none⟩ (.slice (some ⟨g,0,none⟩) (Ly.length+1) cap)).alloc (.cells #[.int .i64 t.round,.int .i64 t.turn] 3)) w1.heap.size w1.heap.size (Ly ++ [t.data.data.toList]):=by
    obtain⟨v,h1,h2⟩:=HV4.out
    exact⟨v,h1.kept (yaw _ _ none) (by simp),h2.alloc _⟩
   refine(L2.out _ _ _ hV4 Hlane.out hN4).mono ?_
   rintro _ w5 ⟨rfl,hV5,hb5⟩
   have hbt5:Below w.heap.size w w5:=(Hbt4.out.alloc Hbt4.out.size _).trans (hb5.mono (by omega))
   obtain⟨v5,hv5,ho5⟩:=hV5
   have hf7:t.fields.length=7:=by unfold Tx.fields;rw[if_pos Hlane.out];rfl
   rw[hf7]at ho5
   obtain⟨g5,cap5,rfl⟩:=ownsRow_succ ho5
   have cv5:=hv5.cell 0 (by simp)
   simp only[List.getElem_cons_zero]at cv5
   have Ho5:=yh ho5
   have Hbt5:=yh hbt5
   have Hf7:=yh hf7
   clear hV4 hN4 hb5 hbt5 hv5 ho5 e0 e1 e2 e3 e4 e5 e6 e7 cB fB hf7
   go_wp2_with fail
   refine(yi4 t.fields _ _ _ _ _ Ho5.out Hf7.out.symm).mono ?_
   rintro _ w6 ⟨rfl,hb6⟩
   have hb6':Below w.heap.size w w6:=Hbt5.out.grown (yae hb6 none) Hbt5.out.size (fun k hk=>by cases hk)
   have Hb6:=yh hb6'
   clear hb6 hb6' cv5
   go_wp2_with fail
   go_ret2
   exact⟨rfl,Hb6.out⟩
 · have Hlane:=yh hl
   go_wp2_with (at_builtin; refine wpList_append_own_wide _ rfl (.tmp 24) (.tmp 27) 56 rfl w1.heap.size 9 i0 (.string ByteArray.empty) 1 16 Tryz.underlying56 Hi.out Hz.out Hs.out Hby.out rfl (by decide) v3 Ly.length (Ly.map S) rfl Ho3a.out ⟨w3.heap.size, 0, none⟩ 1 1 [S t.data.data.toList] rfl rfl (yfx _ _ _) (yey _) hk63 hk48 hz3 ?_
                intro v' w4 hown4 hgrow4 _
                obtain⟨g,cap,rfl⟩:=ownsRow_succ hown4
                obtain⟨cB,fB,hV4,hb4⟩:=yge (nb:=0) (Q:=[]) (tq:=0) Hv3a.out Ho3a.out hown4 hgrow4 (Nat.le_refl _)
                have hr4:Row (w4.setCell ⟨w1.heap.size,0,none⟩ (.slice (some ⟨g,0,none⟩) (Ly.length+1) cap)) w.heap.size 81 C:=(Hr3a.out.kept hgrow4 (ycm Hr3a.out (by decide) Ho3a.out)).kept (yaq w4 w1.heap.size 0 _) (by simp;omega)
                have hbt4:Below w.heap.size w (w4.setCell ⟨w1.heap.size,0,none⟩ (.slice (some ⟨g,0,none⟩) (Ly.length+1) cap)):=ykw (below_own Hb3a.out hgrow4 (fun k hk=>by have:=(Ho3a.out.lt k hk).1;omega)) (by omega)
                obtain⟨e0,e1,e2,e3,e4,e5,e6,e7⟩:=BX.out _ _ _ (Hr3a.out.kept hgrow4 (ycm Hr3a.out (by decide) Ho3a.out))
                have ho4:=ymr Hv3a.out Ho3a.out hown4 hgrow4
                have Ho4:=yh ho4
                have HV4:=yh hV4
                have Hr4:=yh hr4
                have Hbt4:=yh hbt4
                clear ho4 hown4 hgrow4 hV4 hb4 hr4 hbt4 cv3 d4)
   refine(yi4 (Ly ++ [t.data.data.toList]) _ _ _ _ _ Ho4.out (by simp)).mono ?_
   rintro _ w6 ⟨rfl,hb6⟩
   have hb6':Below w.heap.size w w6:=Hbt4.out.grown (yae hb6 none) Hbt4.out.size (fun k hk=>by cases hk)
   have Hb6:=yh hb6'
   clear hb6 hb6' e0 e1 e2 e3 e4 e5 e6 e7 cB fB
   go_wp2_with fail
   go_ret2
   rw[Hfl.out Hlane.out]
   exact⟨rfl,Hb6.out⟩
theorem ytl (t:Tx)(ht:t.Ok)(w:World):
 Calls Tryz.prog 182 #[t.v] w fun e w'=>e=.returned (two (t.bodyE).1 (t.bodyE).2)∧Below w.heap.size w w':=by
 by_cases he:t.err=0
 · exact yu7 t ht w he
 · exact yu8 t ht w he
end
section
open Go.RowKit
namespace Tx
def outer (t:Tx)(b:List UInt8):List (List UInt8):=if t.lane=true then [b,t.tag,t.bY] else [b,t.tag]
def textE (t:Tx):List UInt8×Int:=if t.bodyE.2=0 then Oct.listE (t.outer t.bodyE.1) else ([],t.bodyE.2)
end Tx
theorem yki (W:World)(g o:Nat)(h:List UInt8)(hh:h.length=32)(hg:W.rangeAt g o (bRow h).toList):
 (Go.convert 85 9 (.slice (some ⟨g,o,none⟩) 32 32)).run Tryz.prog W=.ok (S h) W:=by
 have:=run_convert_bytes_arg (P:=Tryz.prog) W 85 5 Tryz.underlying85 Tryz.underlying5 g o 32 32 (h.map fun b=>(b.toNat:Int)) (by rw[List.length_map,hh]) (fun i hi=>by
  have e:(bRow h).toList[i]? = (yRow h)[i]?:=by rw[ycr h hh];simp
  have:=hg i _ (e.trans (yf8 h i (by omega)))
  exact this) 9 Tryz.underlying9
 rw[ydk]at this
 exact this
theorem yaa {w w1 w2:World}(h1:Below w.heap.size w w1)(h2:Below w1.heap.size w1 w2):Below w.heap.size w w2:=h1.grown (yae h2 none) h1.size (fun k hk=>by cases hk)
end
section
open Go.RowKit
theorem yb3 {g:Nat}{T:TypeId} :∀(l:List Value) (off:Nat) (w:World) (xs:List Value),Row w g T xs→off+l.length≤xs.length→
 Row (w.setCells g off l) g T (xs.take off++(l++xs.drop (off+l.length)))∧w.grownBy (w.setCells g off l) (some g)
 | [],off,w,xs,h,hl=>by
   refine⟨?_,yav _ _⟩
   simp only[List.nil_append,List.length_nil,Nat.add_zero,List.take_append_drop]
   exact h
 | v::l,off,w,xs,h,hl=>by
   simp only[List.length_cons]at hl
   obtain⟨h1,h2⟩:=yb3 l (off+1) (w.setCell ⟨g,off,none⟩ v) (xs.set off v) (h.set off v (by omega)) (by rw[List.length_set];omega)
   refine⟨?_,(yaq w g off v).trans h2⟩
   have e1:(xs.set off v).take (off+1)=xs.take off ++ [v]:=by
    rw[List.take_succ_eq_append_getElem (by rw[List.length_set];omega),List.take_set_of_le (Nat.le_refl _)]
    simp
   have e2:(xs.set off v).drop (off+1+l.length)=xs.drop (off+1+l.length):=by rw[List.drop_set_of_lt (by omega)]
   rw[e1,e2,List.append_assoc]at h1
   simp only[List.length_cons]
   rw[show off+(l.length+1)=off+1+l.length by omega]
   exact h1
theorem yab {P:Program}{ops:Array Oper}{rest:List Oper}{op:Oper}{a:Act}{w:World}{Q:Exit→Act→World→Prop}(hgd:op.guard=none)(ty:TypeId)(x y:Operand)(ho:op.op=.store ty x y)
 (g off:Nat) (l xs:List Value) (T:TypeId) (hx:a.eval x=.pointer (some ⟨g,off,none⟩)) (hy:a.eval y=.agg l.toArray) (hg:Row w g T xs) (hoff:off+l.length≤xs.length)
 (hi:(P.info? ty).map (·.size)=some l.length) (h1 :∀v∈l,v.oneCell'=true)
 (h :∀w',Row w' g T (xs.take off++(l++xs.drop (off+l.length)))→w.grownBy w' (some g)→wpList P ops Q rest (a.put op.dst undef) w'):wpList P ops Q (op::rest) a w:=by
 obtain⟨r1,r2⟩:=yb3 l off w xs hg hoff
 exact wpList_store_mid hgd ty x y ho g off l.toArray hx hy (fun j hj=>⟨by
  have hj':j<l.length:=by simpa using hj
  rw[hg.cell (off+j) (by omega)];rfl,hg.free _⟩) (by simpa using hi) (all_oneCell_toArray h1) (h _ r1 r2)
theorem yaj {P:Program}{fn:Func}{p u:Tmp}{ty:TypeId}(h:fn.results=#[.cell p ty,.tmp u])(tmps:Array Value)(w:World)(g:Nat)(T:TypeId)(xs:List Value)(d:TypeDesc)
 (hp:tmps.getD p undef=.pointer (some ⟨g,0,none⟩)) (hg:Row w g T xs)
 (hu:P.underlying ty=some d) (hd:(match d with | .struct _ | .array _ _=>true|_=>false)=true) (hi:(P.info? ty).map (·.size)=some xs.toArray.size) (x:Value) (hx:tmps.getD u undef=x):
 (results fn tmps).run P w=.ok (.tuple #[.agg xs.toArray,x]) w:=by
 rw[results_cell_tmp h,hp]
 have hl:=run_loadVar_row w g T ty xs.toArray (0,0) d hg hu hd hi
 have ha:(asAddr (.pointer (some ⟨g,0,none⟩))).run P w=.ok ⟨g,0,none⟩ w:=rfl
 rw[ha]
 simp only[Result.andThen,hl,hx]
theorem yah {w:World}{g:Nat}{T:TypeId}{xs:List Value}(h:Row w g T xs):w.rangeAt g 0 xs:=by
 intro j v hv
 obtain⟨hlt,he⟩:=List.getElem?_eq_some_iff.1 hv
 rw[Nat.zero_add,h.cell j hlt,he]
theorem ybw (R:List UInt8)(h:R.length=32) :∀v∈(bRow R).toList,v.oneCell'=true:=by
 rw[ycr R h]
 unfold yRow
 intro v hv
 simp at hv
 obtain⟨b,_,rfl⟩:=hv
 rfl
theorem Tx.yan {t:Tx}(h:t.Ok) :∀v∈t.cells,v.oneCell'=true:=by
 intro v hv
 unfold Tx.cells Tx.head at hv
 rcases List.mem_append.1 hv with h1|h1
 · simp at h1
   rcases h1 with rfl|rfl|rfl|rfl|rfl|rfl|rfl|rfl <;> rfl
 · rcases List.mem_append.1 h1 with h2|h2
   · exact ybw _ h.bY v h2
   · exact ybw _ h.tag v h2
theorem Tx.yb1:Tx.none.Ok:=⟨rfl,rfl,by decide,fits0,fits0,fits0,fits0,fits0,fits0⟩
theorem yk2 (w:World):(zeroValue 81).run Tryz.prog w=.ok (.agg Tx.none.arr) w:=by kernel_rfl
theorem yi8 (w:World):(zeroValue 62).run Tryz.prog w=.ok (.agg (bRow Tx.zero)) w:=by kernel_rfl
theorem yco:Tryz.prog.built 81 []=some Tx.none.arr:=by kernel_rfl
theorem yh7 :∀(L:List (List UInt8)) (left:Nat) (b:List UInt8),Oct.listGo left L=some b→b.length≤left+9*L.length
 | [],left,b,h=>by
   simp only[Oct.listGo,Option.some.injEq]at h
   subst h
   simp
 | s::r,left,b,h=>by
   unfold Oct.listGo at h
   split at h
   · cases h
   · obtain⟨c,hc,rfl⟩:=Option.map_eq_some_iff.1 h
     have:=yh7 r (left-s.length) c hc
     have h2:=Oct.yay s.length
     have h3:(Oct.text s).length=(Oct.num s.length).length+s.length:=by unfold Oct.text;rw[List.length_append]
     rw[List.length_append,h3,List.length_cons]
     omega
theorem yc3 (L:List (List UInt8)):(Oct.listE L).1.length≤100000:=by
 unfold Oct.listE
 split
 · simp
 · next hl=>
   cases h:Oct.listGo 65536 L with
   | none=>simp
   | some b=>
     have h1:=yh7 L 65536 b h
     have h2:=Oct.yay L.length
     simp only[List.length_append]
     omega
theorem Tx.body_len (t:Tx):t.bodyE.1.length≤100000:=by
 unfold Tx.bodyE
 split
 · exact yc3 _
 · simp
end
section
open Go.RowKit
theorem yad {xs l:List Value}(h:l.length=xs.length):xs.take 0++(l++xs.drop (0+l.length))=l:=by
 rw[List.take_zero,List.nil_append,List.drop_of_length_le (by omega),List.append_nil]
theorem ycg (w:World)(A B:Array Value)(t1 t2:TypeId):Row ((w.alloc (.cells A t1)).alloc (.cells B t2)) (w.heap.size+1) t2 B.toList∧Below w.heap.size w ((w.alloc (.cells A t1)).alloc (.cells B t2))∧Row ((w.alloc (.cells A t1)).alloc (.cells B t2)) w.heap.size t1 A.toList:=by
 have h:=Row.new (w.alloc (.cells A t1)) t2 B.toList
 rw[show∀(W:World) (o:Obj),(W.alloc o).heap.size=W.heap.size+1 from fun W o=>by simp]at h
 exact⟨h,((Below.refl w.heap.size w).alloc (Nat.le_refl _) _).alloc (by simp) _,(Row.new w t1 A.toList).kept (yaw _ _ none) (by simp)⟩
namespace Tx
def signedE (t:Tx):Int:=if t.bodyE.2=0 then Seal.check2 t.frm 1 t.bodyE.1 t.tag else t.bodyE.2
theorem ynh {t:Tx}(h:t.Ok)(R:List UInt8)(hR:R.length=32):t.cells.take 40++((bRow R).toList++t.cells.drop (40+(bRow R).toList.length))=Tx.cells { t with tag:=R }:=by
 have h1:(bRow t.bY).toList.length=32:=yap _ h.bY
 rw[List.drop_of_length_le (by rw[yag h,yap R hR];omega),List.append_nil]
 have e:t.cells.take 40=t.head++(bRow t.bY).toList:=by
  unfold cells
  rw[List.take_append,List.take_of_length_le (by simp[head]),show t.head.length=8 from rfl,List.take_append_of_le_length (by omega),List.take_of_length_le (by omega)]
 rw[e,List.append_assoc]
 rfl
theorem yoe {t:Tx}(h:t.Ok)(R:List UInt8)(hR:R.length=32):t.cells.take 8++((bRow R).toList++t.cells.drop (8+(bRow R).toList.length))=Tx.cells { t with bY:=R }:=by
 have h1:(bRow t.bY).toList.length=32:=yap _ h.bY
 have e1:t.cells.take 8=t.head:=rfl
 have e2:t.cells.drop 40=(bRow t.tag).toList:=by
  show (((bRow t.bY).toList++(bRow t.tag).toList)).drop 32=_
  rw[List.drop_left' h1]
 rw[yap R hR,e1,e2]
 rfl
end Tx
theorem yk7 (t:Tx)(ht:t.Ok)(w:World)(hT:Tab w):
 Calls Tryz.prog 160 #[t.v] w fun e w'=>e=.returned (.int .i64 t.signedE)∧Below w.heap.size w w':=by
 have hrow0:=Row.new w 81 t.cells
 have hrng:=ya3 hrow0
 have hlen:=Tx.yag ht
 have BD:Hid (∀W,Calls Tryz.prog 182 #[.agg t.cells.toArray] W fun e w'=>e=.returned (.tuple #[S t.bodyE.1,.int .i64 t.bodyE.2])∧Below W.heap.size W w'):=fun W=>ytl t ht W
 have hbl:=t.body_len
 have CK:Hid (∀W,Tab W→Calls Tryz.prog 183 #[.int .i64 t.frm,.int .i64 1,S t.bodyE.1,.agg (bRow t.tag)] W fun e w'=>e=.returned (.int .i64 (Seal.check2 t.frm 1 t.bodyE.1 t.tag))∧Below W.heap.size W w'):=fun W hW=>yr0 t.frm 1 ⟨t.bodyE.1.toArray⟩ t.tag W hW ht.tag (by show t.bodyE.1.length≤_;omega)
 have BX:Hid (∀(W:World) (g:Nat) (T:TypeId),Row W g T t.cells→W.cell? ⟨g,0,none⟩=some (.int .i64 t.frm)∧W.rangeAt g 40 (bRow t.tag).toList):=fun W g T h=>⟨(ybp ht h).1,(yca ht h).2⟩
 have HB32:=yh (Tx.yap _ ht.tag)
 have hn1:t.bodyE.2=0→t.signedE=Seal.check2 t.frm 1 t.bodyE.1 t.tag:=fun h=>by unfold Tx.signedE;rw[if_pos h]
 have hn2:t.bodyE.2≠0→t.signedE=t.bodyE.2:=fun h=>by unfold Tx.signedE;rw[if_neg h]
 show Calls _ _ #[.agg t.cells.toArray] _ _
 generalize t.cells=C at *
 generalize t.signedE=NE at *
 generalize t.bodyE=BE at *
 obtain⟨bs,be⟩:=BE
 simp only at hn1 hn2 BD CK
 generalize Seal.check2 t.frm 1 bs t.tag=R at *
 have HL:=yh hlen
 have Hrng:=yh hrng
 have Hrow0:=yh hrow0
 have Hn1:=yh hn1
 have Hn2:=yh hn2
 have HTab:=yh hT
 have Hp:=yh hT.pos
 clear hT
 clear hlen hrng hn1 hn2 hbl ht hrow0
 by_cases he:be=0
 · subst he
   go_enter Tryz.func160,Tryz.ntmps160
   go_wp2_with (with_reducible show wpList _ _ _ (⟨_,.load 81 _,_,_,_,_⟩::_) _ _;refine yac rfl 81 (.tmp 1) rfl w.heap.size 0 rfl C _ Hrng.out Tryz.underlying81 rfl (by rw[yam,HL.out]) ?_)
   refine(BD.out _).mono ?_
   rintro _ w1 ⟨rfl,hb1⟩
   have hg1:=yae hb1 none
   have hr1:=Hrow0.out.kept hg1 (by simp)
   obtain⟨c0,rt⟩:=BX.out _ _ _ hr1
   have Hrt:=yh rt
   have Hbt1:=yh (ya0 hg1)
   clear hb1 hg1 hr1 rt
   go_wp2_with (with_reducible show wpList _ _ _ (⟨_,.load 62 _,_,_,_,_⟩::_) _ _;refine yac rfl 62 (.tmp 16) rfl w.heap.size 40 rfl (bRow t.tag).toList _ Hrt.out Tryz.underlying62 rfl (by rw[yas,HB32.out]) ?_)
   refine(CK.out w1 (HTab.out.below Hbt1.out Hp.out)).mono ?_
   rintro _ w2 ⟨rfl,hb2⟩
   have Hb2:=yh (yaa Hbt1.out hb2)
   clear hb2
   go_wp2_with fail
   go_ret
   exact⟨by have e:=Hn1.out (by first|trivial|rfl);subst e;rfl,Hb2.out⟩
 · have hne:(be != 0)=true:=by simpa using he
   have Hne:=yh he
   clear he
   go_enter Tryz.func160,Tryz.ntmps160
   go_wp2_with (with_reducible show wpList _ _ _ (⟨_,.load 81 _,_,_,_,_⟩::_) _ _;refine yac rfl 81 (.tmp 1) rfl w.heap.size 0 rfl C _ Hrng.out Tryz.underlying81 rfl (by rw[yam,HL.out]) ?_)
   refine(BD.out _).mono ?_
   rintro _ w1 ⟨rfl,hb1⟩
   have Hbt1:=yh (ya0 (yae hb1 none))
   clear hb1
   go_wp2_with fail
   go_ret
   exact⟨by have e:=Hn2.out Hne.out;subst e;rfl,Hbt1.out⟩
end
section
open Go.RowKit
def Tx.pairV (x:Tx×Int):Value:=.tuple #[x.1.v,.int .i64 x.2]
end
section
open Go.RowKit
namespace Tx
def listAll (s:List UInt8):Option (List (List UInt8)):=if (Oct.rdList s 0).2.2=0∧(Oct.rdList s 0).2.1=s.length then some (Oct.rdList s 0).1 else Option.none
def numAll (s:List UInt8):Option Int:=if (Oct.rdNum s 0).2.2=0∧(Oct.rdNum s 0).2.1=s.length then some (Oct.rdNum s 0).1 else Option.none
theorem yds {s:List UInt8}{L:List (List UInt8)}(h:listAll s=some L):Oct.listE L=(s,0):=by
 unfold listAll at h
 split at h
 · next h1=>
   obtain⟨h2,h3⟩:=h1
   have hL:(Oct.rdList s 0).1=L:=by simpa using h
   rcases Oct.yj5 (s:=s) (p:=0) (q:=(Oct.rdList s 0).2.1) (e:=(Oct.rdList s 0).2.2) (l:=(Oct.rdList s 0).1) rfl with⟨h4,_⟩|⟨_,_,_,_,h4⟩
   · exact absurd h2 h4
   · rw[hL,h3]at h4
     rw[h4]
     simp
 · cases h
theorem ybn {s:List UInt8}{n:Int}(h:numAll s=some n):0≤n∧n≤9223372036854775807∧Oct.num n.toNat=s:=by
 unfold numAll at h
 split at h
 · next h1=>
   obtain⟨h2,h3⟩:=h1
   have hN:(Oct.rdNum s 0).1=n:=by simpa using h
   rcases Oct.yce (s:=s) (p:=0) (n:=(Oct.rdNum s 0).1) (q:=(Oct.rdNum s 0).2.1) (e:=(Oct.rdNum s 0).2.2) rfl with⟨h4,_⟩|⟨_,_,h5,h6,_,_,h7⟩
   · exact absurd h2 h4
   · rw[hN]at h5 h6 h7
     rw[h3]at h7
     refine⟨h5,by omega,?_⟩
     rw[←h7]
     simp
 · cases h
end Tx
theorem list_some (s:ByteArray)(L:List (List UInt8))(w:World)(hs:s.size≤9223372036854775807)(h:Tx.listAll s.data.toList=some L):
 Calls Tryz.prog 179 #[.string s] w fun e w' =>∃v,e=.returned (.tuple #[v,.int .i64 0])∧TextsV w' v L∧Below w.heap.size w w':=by
 unfold Tx.listAll at h
 split at h
 · next h1=>
   obtain⟨h2,h3⟩:=h1
   have hL:(Oct.rdList s.data.toList 0).1=L:=by simpa using h
   have RL:=yda s 0 w hs
   unfold ListEnds at RL
   rw[h2,h3,hL]at RL
   have hq:(s.data.toList.length:Int)=(s.size:Int):=by rw[Array.length_toList];rfl
   rw[hq]at RL
   have HRL:=yh RL
   clear h h2 h3 hL hq RL
   go_enter Tryz.func179,Tryz.ntmps179
   go_wp2_with fail
   refine HRL.out.mono ?_
   rintro _ w1 ⟨v,rfl,hT,hb⟩
   have HT:=yh hT
   have Hb:=yh hb
   clear hT hb
   go_wp2_with fail
   go_ret2
   exact⟨_,rfl,HT.out,Hb.out⟩
 · cases h
theorem yqr (s:ByteArray)(w:World)(hs:s.size≤9223372036854775807)(h:Tx.listAll s.data.toList=none):
 Calls Tryz.prog 179 #[.string s] w fun e w' =>∃n:Int,(n != 0)=true∧e=.returned (.tuple #[.slice none 0 0,.int .i64 n])∧Below w.heap.size w w':=by
 unfold Tx.listAll at h
 split at h
 · cases h
 · next h1=>
   have RL:=yda s 0 w hs
   unfold ListEnds at RL
   have hq:(s.data.toList.length:Int)=(s.size:Int):=by rw[Array.length_toList];rfl
   rw[hq]at h1
   generalize (Oct.rdList s.data.toList 0).2.1=q at *
   generalize (Oct.rdList s.data.toList 0).2.2=er at *
   generalize (Oct.rdList s.data.toList 0).1=L at *
   have HRL:=yh RL
   clear h hq RL
   by_cases h0:er=0
   · have hne:q≠(s.size:Int):=fun e=>h1 ⟨h0,e⟩
     have d1:(q != (s.size:Int))=true:=by simpa using hne
     subst h0
     clear h1 hne
     go_enter Tryz.func179,Tryz.ntmps179
     go_wp2_with fail
     refine HRL.out.mono ?_
     rintro _ w1 ⟨v,rfl,hT,hb⟩
     have Hb:=yh hb
     clear hT hb
     go_wp2_with fail
     go_ret2
     exact⟨6,rfl,rfl,Hb.out⟩
   · have d0:(er != 0)=true:=by simpa using h0
     clear h1 h0
     go_enter Tryz.func179,Tryz.ntmps179
     go_wp2_with fail
     refine HRL.out.mono ?_
     rintro _ w1 ⟨v,rfl,hT,hb⟩
     have Hb:=yh hb
     have D0:=yh d0
     clear hT hb
     go_wp2_with fail
     go_ret2
     exact⟨er,D0.out,rfl,Hb.out⟩
theorem ym9 (s:ByteArray)(n:Int)(w:World)(hs:s.size≤9223372036854775807)(h:Tx.numAll s.data.toList=some n):
 Calls Tryz.prog 193 #[.string s] w fun e w'=>e=.returned (.tuple #[.int .i64 n,.int .i64 0])∧w=w':=by
 unfold Tx.numAll at h
 split at h
 · next h1=>
   obtain⟨h2,h3⟩:=h1
   have hN:(Oct.rdNum s.data.toList 0).1=n:=by simpa using h
   have RL:=ya5 s 0 w hs
   unfold rdNumV three at RL
   rw[h2,h3,hN]at RL
   have hq:(s.data.toList.length:Int)=(s.size:Int):=by rw[Array.length_toList];rfl
   rw[hq]at RL
   have HRL:=yh RL
   clear h h2 h3 hN hq RL
   go_enter Tryz.func193,Tryz.ntmps193
   go_wp2_with fail
   refine HRL.out.mono ?_
   rintro _ w1 ⟨rfl,rfl⟩
   go_wp2_with fail
   go_ret2
   exact⟨rfl,rfl⟩
 · cases h
theorem yr7 (s:ByteArray)(w:World)(hs:s.size≤9223372036854775807)(h:Tx.numAll s.data.toList=none):
 Calls Tryz.prog 193 #[.string s] w fun e w' =>∃n:Int,(n != 0)=true∧e=.returned (.tuple #[.int .i64 0,.int .i64 n])∧w=w':=by
 unfold Tx.numAll at h
 split at h
 · cases h
 · next h1=>
   have RL:=ya5 s 0 w hs
   unfold rdNumV three at RL
   have hq:(s.data.toList.length:Int)=(s.size:Int):=by rw[Array.length_toList];rfl
   rw[hq]at h1
   generalize (Oct.rdNum s.data.toList 0).2.1=q at *
   generalize (Oct.rdNum s.data.toList 0).2.2=er at *
   generalize (Oct.rdNum s.data.toList 0).1=x at *
   have HRL:=yh RL
   clear h hq RL
   by_cases h0:er=0
   · have hne:q≠(s.size:Int):=fun e=>h1 ⟨h0,e⟩
     have d1:(q != (s.size:Int))=true:=by simpa using hne
     subst h0
     clear h1 hne
     go_enter Tryz.func193,Tryz.ntmps193
     go_wp2_with fail
     refine HRL.out.mono ?_
     rintro _ w1 ⟨rfl,rfl⟩
     go_wp2_with fail
     go_ret2
     exact⟨6,rfl,rfl,rfl⟩
   · have d0:(er != 0)=true:=by simpa using h0
     clear h1 h0
     have D0:=yh d0
     go_enter Tryz.func193,Tryz.ntmps193
     go_wp2_with fail
     refine HRL.out.mono ?_
     rintro _ w1 ⟨rfl,rfl⟩
     go_wp2_with fail
     go_ret2
     exact⟨er,D0.out,rfl,rfl⟩
end
section
open Go.RowKit
namespace Tx
def put (t:Tx)(i:Nat)(n:Int):Tx:=
 if i=0 then { t with frm:=n } else if i=1 then { t with nonce:=n } else if i=2 then { t with fee:=n } else if i=3 then { t with to:=n } else if i=5 then { t with round:=n } else if i=6 then { t with turn:=n } else t
def fill (t:Tx):Nat→List (List UInt8)→Option Tx
 | _,[]=>some t
 | i,s::r=>if i=4 then fill t (i+1) r else match numAll s with
   | Option.none=>Option.none
   | some n=>fill (put t i n) (i+1) r
def want (t:Tx):Nat:=if t.lane=true then 7 else 5
def withData (t:Tx)(s:List UInt8):Tx:={ t with data:=⟨s.toArray⟩ }
def bodyRead (t:Tx)(s:List UInt8):Option Tx:=
 match listAll s with
 | Option.none=>Option.none
 | some l=>if l.length=t.want then fill (t.withData (l.getD 4 [])) 0 l else Option.none
def place (i:Nat):Nat:=if i<4 then i else i+1
theorem yp9 (t:Tx)(i:Nat)(n:Int)(hi:i<7)(h4:i≠4):t.cells.set (place i) (.int .i64 n)=(put t i n).cells:=by
 have:i=0∨i=1∨i=2∨i=3∨i=5∨i=6:=by omega
 rcases this with rfl|rfl|rfl|rfl|rfl|rfl <;> rfl
theorem put_ok {t:Tx}(h:t.Ok)(i:Nat){n:Int}(hn:fits n):(put t i n).Ok:=by
 unfold put
 split
 · exact⟨h.bY,h.tag,h.data,hn,h.nonce,h.fee,h.to,h.round,h.turn⟩
 split
 · exact⟨h.bY,h.tag,h.data,h.frm,hn,h.fee,h.to,h.round,h.turn⟩
 split
 · exact⟨h.bY,h.tag,h.data,h.frm,h.nonce,hn,h.to,h.round,h.turn⟩
 split
 · exact⟨h.bY,h.tag,h.data,h.frm,h.nonce,h.fee,hn,h.round,h.turn⟩
 split
 · exact⟨h.bY,h.tag,h.data,h.frm,h.nonce,h.fee,h.to,hn,h.turn⟩
 split
 · exact⟨h.bY,h.tag,h.data,h.frm,h.nonce,h.fee,h.to,h.round,hn⟩
 · exact h
theorem yoj (t:Tx)(s:List UInt8):t.cells.set 4 (S s)=(t.withData s).cells:=rfl
theorem yg3 :∀(L:List (List UInt8)) (left:Nat) (b:List UInt8),Oct.listGo left L=some b→∀x∈L,x.length≤left
 | s::r,left,b,h,x,hx=>by
   unfold Oct.listGo at h
   split at h
   · cases h
   · next hle=>
     obtain⟨c,hc,rfl⟩:=Option.map_eq_some_iff.1 h
     rcases List.mem_cons.1 hx with rfl|hx
     · omega
     · have:=yg3 r (left-s.length) c hc x hx
       omega
theorem ybv {s:List UInt8}{L:List (List UInt8)}(h:listAll s=some L) :∀x∈L,x.length≤65536:=by
 have h1:=yds h
 unfold Oct.listE at h1
 split at h1
 · simp at h1
 · cases hg:Oct.listGo 65536 L with
   | none=>rw[hg]at h1;simp at h1
   | some b=>exact yg3 L 65536 b hg
end Tx
theorem yk3 {w:World}{g b off:Nat}{T:TypeId}{t:Tx}(h:Row w g T t.cells)(ht:t.Ok)(a c:List UInt8)(h0:w.cell? ⟨b,off,none⟩=some (S a))(h1:w.cell? ⟨b,off+1,none⟩=some (S c)):b≠g:=by
 rintro rfl
 have hl:=Tx.yag ht
 have key :∀j x,w.cell? ⟨b,j,none⟩=some (S x)→j=4:=by
  intro j x hx
  by_cases hj:j<72
  · have hc:=h.cell j (by omega)
    rw[hx]at hc
    have he:t.cells[j]'(by omega)=S x:=(Option.some.inj hc).symm
    by_cases hj8:j<8
    · have hh:t.cells[j]'(by omega)=t.head[j]'(by simp[Tx.head];omega):=by
       unfold Tx.cells
       rw[List.getElem_append_left]
      rw[hh]at he
      have:j=0∨j=1∨j=2∨j=3∨j=4∨j=5∨j=6∨j=7:=by omega
      rcases this with rfl|rfl|rfl|rfl|rfl|rfl|rfl|rfl <;> simp[Tx.head,S]at he ⊢
    · have hm:S x∈(bRow t.bY).toList++(bRow t.tag).toList:=by
       have hh:t.cells[j]'(by omega)=((bRow t.bY).toList++(bRow t.tag).toList)[j-8]'(by rw[List.length_append,Tx.yap _ ht.bY,Tx.yap _ ht.tag];omega):=by
        unfold Tx.cells
        rw[List.getElem_append_right (by simp[Tx.head];omega)]
        rfl
       rw[←he,hh]
       exact List.getElem_mem _
      have :∀R:List UInt8,R.length=32→S x ∉ (bRow R).toList:=by
       intro R hR hx
       rw[ycr R hR]at hx
       unfold yRow at hx
       simp[S]at hx
      rcases List.mem_append.1 hm with h2|h2
      · exact absurd h2 (this _ ht.bY)
      · exact absurd h2 (this _ ht.tag)
  · unfold Row at h
    simp[World.cell?,h]at hx
    have:=(List.getElem?_eq_some_iff.1 hx).1
    omega
 have e0:=key _ _ h0
 have e1:=key _ _ h1
 omega
end
section
open Go.RowKit
def ptrsL (g:Nat):List Value:=[.pointer (some ⟨g,0,none⟩),.pointer (some ⟨g,1,none⟩),.pointer (some ⟨g,2,none⟩),.pointer (some ⟨g,3,none⟩),.pointer none,.pointer (some ⟨g,6,none⟩),.pointer (some ⟨g,7,none⟩)]
theorem ykx {base:Nat}{w0 W:World}{g i:Nat}{v:Value}(h:Below base w0 W)(hg:base≤g)(hs:base≤W.heap.size):Below base w0 (W.setCell ⟨g,i,none⟩ v):=
 h.grown (yaq W g i v) hs (fun k hk=>by cases hk;exact hg)
def BodyEnds (F:Option Tx)(g:Nat)(e:Ending)(w':World):Prop:=
 match F with
 | some u=>e=.returned (.int .i64 0)∧u.Ok∧Row w' g 81 u.cells
 | none =>∃n:Int,(n != 0)=true∧e=.returned (.int .i64 n)
theorem ptr_at (g k:Nat)(hk:k<7)(h4:k≠4):(ptrsL g)[k]? = some (.pointer (some ⟨g,Tx.place k,none⟩)):=by
 have:k=0∨k=1∨k=2∨k=3∨k=5∨k=6:=by omega
 rcases this with rfl|rfl|rfl|rfl|rfl|rfl <;> rfl
theorem yoi {t:Tx}{l:List (List UInt8)}(h:4<l.length):Tx.fill t 4 (l.drop 4)=Tx.fill t 5 (l.drop 5):=by
 rw[List.drop_eq_getElem_cons h,Tx.fill]
 rfl
theorem yrg {t:Tx}{l:List (List UInt8)}{k:Nat}{n:Int}(h:k<l.length)(h4:k≠4)(hn:Tx.numAll l[k]=some n):Tx.fill t k (l.drop k)=Tx.fill (t.put k n) (k+1) (l.drop (k+1)):=by
 rw[List.drop_eq_getElem_cons h,Tx.fill,if_neg h4,hn]
theorem yhc {t:Tx}{l:List (List UInt8)}{k:Nat}(h:k<l.length)(h4:k≠4)(hn:Tx.numAll l[k]=none):Tx.fill t k (l.drop k)=none:=by
 rw[List.drop_eq_getElem_cons h,Tx.fill,if_neg h4,hn]
theorem yu3 {t:Tx}(h:t.Ok){x:List UInt8}(hx:x.length≤65536):(t.withData x).Ok:=
 ⟨h.bY,h.tag,(by show x.length≤_;omega),h.frm,h.nonce,h.fee,h.to,h.round,h.turn⟩
theorem yj1 (t:Tx)(ht:t.Ok)(s:ByteArray)(w:World)(g base:Nat)(hs:s.size≤9223372036854775807)(hg:Row w g 81 t.cells)(hbg:base≤g):
 Calls Tryz.prog 180 #[.string s,.pointer (some ⟨g,0,none⟩)] w fun e w'=>
  BodyEnds (t.bodyRead s.data.toList) g e w'∧Below base w w':=by
 have hbw:base≤w.heap.size:=by have:=hg.lt;omega
 cases hL:Tx.listAll s.data.toList with
 | none=>
   have hR:t.bodyRead s.data.toList=none:=by unfold Tx.bodyRead;rw[hL]
   rw[hR]
   have LN:=yh (fun W=>yqr s W hs hL)
   clear hL hR hg
   go_enter Tryz.func180,Tryz.ntmps180
   go_wp2_with fail
   refine(LN.out w).mono ?_
   rintro _ w1 ⟨n,hn,rfl,hb1⟩
   have Hb1:=yh hb1
   have Hn:=yh hn
   clear hb1
   go_wp2_with fail
   go_ret
   exact⟨⟨n,Hn.out,rfl⟩,Hb1.out.mono hbw⟩
 | some l=>
   have LS:=yh (fun W=>list_some s l W hs hL)
   have hlt:=Tx.ybv hL
   by_cases hw:l.length=t.want
   · have hR:t.bodyRead s.data.toList=Tx.fill (t.withData (l.getD 4 [])) 0 l:=by unfold Tx.bodyRead;rw[hL];simp only;rw[if_pos hw]
     rw[hR]
     have hw5:5≤l.length:=by rw[hw];unfold Tx.want;split <;> omega
     have hw7:l.length≤7:=by rw[hw];unfold Tx.want;split <;> omega
     obtain⟨m,hm⟩ :∃m,m=l.length:=⟨_,rfl⟩
     have hwm:(t.lane=true∧((m:Int) != 7)=false)∨(t.lane=false∧((m:Int) != 5)=false):=by
      unfold Tx.want at hw
      rw[←hm]at hw
      rcases Bool.eq_false_or_eq_true t.lane with h|h
      · rw[if_pos h]at hw
        exact .inl ⟨h,by simp;omega⟩
      · rw[if_neg (by rw[h];simp)]at hw
        exact .inr ⟨h,by simp;omega⟩
     have LS2:Hid (∀W,Calls Tryz.prog 179 #[.string s] W fun e w' =>∃b off c,e=.returned (.tuple #[.slice (some ⟨b,off,none⟩) m c,.int .i64 0])∧b<w'.heap.size∧(∀i (h:i<l.length),w'.cell? ⟨b,off+i,none⟩=some (S l[i]))∧Below W.heap.size W w'):=fun W=>(LS.out W).mono fun e w' ⟨v,h1,⟨A,c,h2,h4⟩,h3⟩=>by
      obtain⟨b,off,hA,hb,hc⟩:=h4 (by intro e;rw[e]at hw5;simp at hw5)
      exact⟨b,off,c,by rw[h1,h2,hm,hA],hb,hc,h3⟩
     have HR:=yh hg
     have HM:=yh hm
     have Hlt:=yh hlt
     rw[←hm]at hw5 hw7
     clear hL hR hg hw hlt LS hm
     have h4m:(4:Int)<(m:Int):=by omega
     have hl4:4<l.length:=by rw[←HM.out];omega
     obtain⟨d4,hd4⟩ :∃d4,d4=l[4]:=⟨_,rfl⟩
     have e4:l.getD 4 []=d4:=by rw[hd4];simp[List.getD,hl4]
     have hd4l:d4.length≤65536:=by rw[hd4];exact Hlt.out _ (List.getElem_mem _)
     obtain⟨F,hF⟩ :∃F,F=Tx.fill (t.withData d4) 0 l:=⟨_,rfl⟩
     rw[e4,←hF]
     have HF:=yh hF
     have HD:=yh hd4
     clear hF hd4 e4
     rcases hwm with⟨h1,h2⟩|⟨h1,h2⟩
     all_goals
      go_enter Tryz.func180,Tryz.ntmps180
      go_wp2_with fail
      refine(LS2.out w).mono ?_
      rintro _ w1 ⟨b,off,c,rfl,hbl,hc,hb1⟩
      have hr1:=HR.out.kept (yae hb1 none) (by simp)
      have hbg2:b≠g:=yk3 hr1 ht _ _ (hc 0 (by rw[←HM.out];omega)) (hc 1 (by rw[←HM.out];omega))
      have c5:=hr1.cell 5 (by rw[Tx.yag ht];omega)
      have c5':w1.cell? ⟨g,5,none⟩=some (.bool t.lane):=c5
      have c4:=hr1.cell 4 (by rw[Tx.yag ht];omega)
      have f4:=hr1.free 4
      have s4:=hc 4 (by rw[←HM.out];omega)
      rw[←HD.out]at s4
      have hgl:=hr1.lt
      have Hr1:=yh hr1
      have Hb1:=yh (hb1.mono hbw)
      have Hc:=yh hc
      clear hr1 hb1 hc c5
      go_wp2_with fail
      go_region
      have hgw:base≤w1.heap.size:=Nat.le_trans hbw Hb1.out.size
      have hrA:Row ((w1.setCell ⟨g,4,none⟩ (S d4)).alloc (.cells (ptrsL g).toArray 157)).drew g 81 (t.withData d4).cells:=by
       have h:=Hr1.out.set 4 (S d4) (by rw[Tx.yag ht];omega)
       rw[Tx.yoj]at h
       exact(h.kept (yaw _ _ none) (by simp)).kept (ybh _ none) (by simp)
      have hpA:Row ((w1.setCell ⟨g,4,none⟩ (S d4)).alloc (.cells (ptrsL g).toArray 157)).drew w1.heap.size 157 (ptrsL g):=by
       have h:=Row.new (w1.setCell ⟨g,4,none⟩ (S d4)) 157 (ptrsL g)
       rw[show (w1.setCell ⟨g,4,none⟩ (S d4)).heap.size=w1.heap.size by simp[World.setCell]]at h
       exact h.kept (ybh _ none) (by simp)
      have hcA :∀i (h:i<l.length),((w1.setCell ⟨g,4,none⟩ (S d4)).alloc (.cells (ptrsL g).toArray 157)).drew.cell? ⟨b,off+i,none⟩=some (S l[i]):=fun i h=>
       (((yaq w1 g 4 (S d4)).cell (Hc.out i h) (by simpa using hbg2)) |> fun q=>(ybh _ none).cell ((yaw _ _ none).cell q (by simp)) (by simp))
      have hbA:Below base w ((w1.setCell ⟨g,4,none⟩ (S d4)).alloc (.cells (ptrsL g).toArray 157)).drew:=
       ((ykx Hb1.out hbg hgw).alloc (by simp[World.setCell];omega) _).drew
      have hgP:g≠w1.heap.size:=by omega
      have hbP:b<w1.heap.size:=hbl
      have hoA:=yu3 ht hd4l
      have HrA:=yh hrA
      have HpA:=yh hpA
      have HcA:=yh hcA
      have HbA:=yh hbA
      have HoA:=yh hoA
      clear hrA hpA hcA hbA hoA c4 c5' f4 s4 Hr1 Hb1 Hc
      go_wp2_with fail
      go_loopw [68] (fun i wr =>∃(k:Nat) (u:Tx),k≤m∧i=.int .i64 k∧u.Ok∧F=Tx.fill u k (l.drop k)∧Row wr g 81 u.cells∧Row wr w1.heap.size 157 (ptrsL g)∧(∀i (h:i<l.length),wr.cell? ⟨b,off+i,none⟩=some (S l[i]))∧base≤wr.heap.size∧Below base w wr) (fun i _=>m-(intOf i).toNat)
      case atStart=>exact⟨0,t.withData d4,Nat.zero_le _,rfl,HoA.out,by rw[HF.out,List.drop_zero],HrA.out,HpA.out,HcA.out,Nat.le_trans hbw HbA.out.size,HbA.out⟩
      case round=>
       obtain⟨k,u,hk,rfl,hu,hFk,hru,hpk,hck,hsz,hbk⟩:=hrel
       have HFk:=yh hFk
       have Hru:=yh hru
       have Hpk:=yh hpk
       have Hck:=yh hck
       have Hbk:=yh hbk
       have Hu:=yh hu
       clear hFk hru hpk hck hbk hu HrA HpA HcA HbA HF HoA
       by_cases hkm:k<m
       · have hki:(k:Int)<(m:Int):=by omega
         have hk7:(k:Int)<7:=by omega
         have hkl:k<l.length:=by rw[←HM.out];exact hkm
         have ctx:=Hck.out k hkl
         obtain⟨x,hx⟩ :∃x,x=l[k]:=⟨_,rfl⟩
         rw[←hx]at ctx
         have hxl:x.length≤65536:=by rw[hx];exact Hlt.out _ (List.getElem_mem _)
         by_cases h4:k=4
         · subst h4
           have cp:wr.cell? ⟨w1.heap.size,4,none⟩=some (.pointer none):=Hpk.out.cell 4 (by simp[ptrsL])
           have hF5:=HFk.out.trans (yoi hkl)
           have HF5:=yh hF5
           clear hF5 hx
           go_wp2_with fail
           refine⟨⟨5,u,by omega,by go_num,Hu.out,HF5.out,Hru.out,Hpk.out,Hck.out,hsz,Hbk.out⟩,by simp[intOf];omega⟩
         · have cp:wr.cell? ⟨w1.heap.size,k,none⟩=some (.pointer (some ⟨g,Tx.place k,none⟩)):=by
            obtain⟨hl',he'⟩:=List.getElem?_eq_some_iff.1 (ptr_at g k (by omega) h4)
            rw[Hpk.out.cell k hl',he']
           cases hN:Tx.numAll x with
           | none=>
             have hFn:=HFk.out.trans (yhc hkl h4 (by rw[←hx];exact hN))
             have WN:=yh (fun W=>yr7 ⟨x.toArray⟩ W (by show x.length≤_;omega) hN)
             have HFn:=yh hFn
             clear hFn hx hN
             go_wp2_with fail
             refine(WN.out _).mono ?_
             rintro _ w5 ⟨n,hn,rfl,rfl⟩
             have Hn:=yh hn
             go_wp2_with fail
             go_ret
             exact⟨by rw[HFn.out];exact⟨n,Hn.out,rfl⟩,Hbk.out⟩
           | some n=>
             have hFn:=HFk.out.trans (yrg hkl h4 (by rw[←hx];exact hN))
             have hnb:=Tx.ybn hN
             have WS:=yh (fun W=>ym9 ⟨x.toArray⟩ n W (by show x.length≤_;omega) hN)
             have hpl:Tx.place k<u.cells.length:=by rw[Tx.yag Hu.out];unfold Tx.place;split <;> omega
             have co:=Hru.out.cell (Tx.place k) hpl
             have fo:=Hru.out.free (Tx.place k)
             have hrn:=Hru.out.set (Tx.place k) (.int .i64 n) hpl
             rw[Tx.yp9 u k n (by omega) h4]at hrn
             have hun:=Tx.put_ok Hu.out k (n:=n) ⟨by omega,hnb.2.1⟩
             have hbn:Below base w (wr.setCell ⟨g,Tx.place k,none⟩ (.int .i64 n)):=ykx Hbk.out hbg hsz
             have hpn:=Hpk.out.kept (yaq wr g (Tx.place k) (.int .i64 n)) (by simpa using fun e=>hgP e.symm)
             have hcn :∀i (h:i<l.length),(wr.setCell ⟨g,Tx.place k,none⟩ (.int .i64 n)).cell? ⟨b,off+i,none⟩=some (S l[i]):=fun i h=>(yaq wr g (Tx.place k) (.int .i64 n)).cell (Hck.out i h) (by simpa using hbg2)
             have hszn:base≤(wr.setCell ⟨g,Tx.place k,none⟩ (.int .i64 n)).heap.size:=by simp[World.setCell];exact hsz
             have HFn:=yh hFn
             have Hrn:=yh hrn
             have Hun:=yh hun
             have Hbn:=yh hbn
             have Hpn:=yh hpn
             have Hcn:=yh hcn
             have Hszn:=yh hszn
             generalize u.cells[Tx.place k]=ov at co
             generalize Tx.place k=pk at *
             clear hFn hx hN hrn hun hbn hpn hcn hszn
             go_wp2_with fail
             refine(WS.out _).mono ?_
             rintro _ w5 ⟨rfl,rfl⟩
             go_wp2_with fail
             refine⟨⟨k+1,u.put k n,hkm,by go_num,Hun.out,HFn.out,Hrn.out,Hpn.out,Hcn.out,Hszn.out,Hbn.out⟩,by simp[intOf];omega⟩
       · have hki:(m:Int)≤(k:Int):=by omega
         have hFe:F=some u:=by
          rw[HFk.out,List.drop_of_length_le (by rw[←HM.out];omega)]
          rfl
         have HFe:=yh hFe
         clear hFe
         go_wp2_with fail
         go_ret
         exact⟨by rw[HFe.out];exact⟨rfl,Hu.out,Hru.out⟩,Hbk.out⟩
   · have hR:t.bodyRead s.data.toList=none:=by unfold Tx.bodyRead;rw[hL];simp only;rw[if_neg hw]
     rw[hR]
     have hlane:=hg.cell 5 (by rw[Tx.yag ht];omega)
     have hlane':w.cell? ⟨g,5,none⟩=some (.bool t.lane):=hlane
     have hglt:=hg.lt
     obtain⟨m,hm⟩ :∃m,m=l.length:=⟨_,rfl⟩
     have hcl:(t.lane=true∧((m:Int) != 7)=true)∨(t.lane=false∧((m:Int) != 5)=true):=by
      unfold Tx.want at hw
      rw[←hm]at hw
      rcases Bool.eq_false_or_eq_true t.lane with h|h
      · rw[if_pos h]at hw
        exact .inl ⟨h,by simp;omega⟩
      · rw[if_neg (by rw[h];simp)]at hw
        exact .inr ⟨h,by simp;omega⟩
     have LS2:Hid (∀W,Calls Tryz.prog 179 #[.string s] W fun e w' =>∃A c,e=.returned (.tuple #[.slice A m c,.int .i64 0])∧Below W.heap.size W w'):=fun W=>(LS.out W).mono fun e w' ⟨v,h1,⟨A,c,h2,_⟩,h3⟩=>⟨A,c,by rw[h1,h2,hm],h3⟩
     clear hL hR hg hw hlt hlane LS hm
     rcases hcl with⟨h1,h2⟩|⟨h1,h2⟩
     all_goals
      go_enter Tryz.func180,Tryz.ntmps180
      go_wp2_with fail
      refine(LS2.out w).mono ?_
      rintro _ w1 ⟨A,c,rfl,hb1⟩
      have c5:=(hb1.cell (p:=⟨g,5,none⟩) hglt).trans hlane'
      have Hb1:=yh hb1
      clear hb1 hlane'
      go_wp2_with fail
      go_ret
      exact⟨⟨6,rfl,rfl⟩,Hb1.out.mono hbw⟩
end
end Go.Proofs.YtalfnadejpmjnaaGreatDoor
namespace Go.Proofs.YtalfnadejpmjnaaGreatDoor.Cap
open Go.RowKit
def TextsV (w:World)(v:Value)(l:List (List UInt8)):Prop :=∃A c,v=.slice A l.length c∧l.length≤c∧Texts w w.heap.size A l
theorem ycy {w:World}{base:Nat}{v:Value}{l:List (List UInt8)}(h:w.ownsRow base 9 1 v l.length (l.map S)):TextsV w v l:=by
 have hlt:=h.lt
 have hcs:=fun g (hg:v.ownBlock=some g)=>h.cells hg
 rcases h.2 with⟨rfl,hx⟩|⟨g,cap,cur,rfl,_,hh,hnc,_⟩
 · have:l=[]:=by simpa using hx
   subst this
   exact⟨none,0,rfl,Nat.le_refl _,fun h=>absurd rfl h⟩
 · refine⟨some ⟨g,0,none⟩,cap,rfl,by first|exact hnc|omega,fun _=>⟨g,0,rfl,(hlt g rfl).2,fun i hi=>?_⟩⟩
   have:=hcs g rfl i (S l[i]) (by simp[hi])
   have e:(⟨g,0,none⟩:Addr).add i=⟨g,0+i,none⟩:=by unfold Addr.add;split <;> simp_all
   rwa[e]at this
def ListEnds (w:World)(s:List UInt8)(p:Int)(e:Ending)(w':World):Prop:=
 ∃v,e=.returned (.tuple #[v,.int .i64 (Oct.rdList s p).2.1,.int .i64 (Oct.rdList s p).2.2])∧TextsV w' v (Oct.rdList s p).1∧Below w.heap.size w w'
theorem yda (s:ByteArray)(p:Int)(w:World)(hs:s.size≤9223372036854775807):
 Calls Tryz.prog 80 #[.string s,.int .i64 p] w (ListEnds w s.data.toList p):=by
 obtain⟨i0,hi,hz0,hz1,hz2⟩:=info_parts yd7
 have Hi:=yh hi;clear hi
 have Hz0:=yh hz0;clear hz0
 have Hz1:=yh hz1;clear hz1
 have Hz2:=yh hz2;clear hz2
 rcases hn:Oct.rdNum s.data.toList p with⟨n,q,e⟩
 have hok:=Oct.yce hn
 have hv:rdNumV s p=three n q e:=by unfold rdNumV;rw[hn]
 have hnil :∀W:World,TextsV W (.slice none 0 0) []:=fun W=>⟨none,0,rfl,Nat.le_refl _,fun h=>absurd rfl h⟩
 by_cases he:e≠0
 · have hr:Oct.rdList s.data.toList p=([],0,e):=by unfold Oct.rdList;rw[hn];simp only;rw[if_pos he]
   unfold ListEnds
   rw[hr]
   have hd:(e != 0)=true:=by rw[bne_iff_ne];exact he
   clear he hr hok
   have Hv:=yh hv;clear hv hn
   go_enter Tryz.func80,Tryz.ntmps80
   go_wp2_with fail
   refine(ya5 s p _ hs).mono ?_
   rintro e w1 ⟨rfl,rfl⟩
   rw[Hv.out]
   unfold three
   go_wp2
   go_ret3
   exact⟨_,rfl,hnil _,Below.refl _ _⟩
 · obtain rfl:e=0:=by omega
   rcases hok with h|⟨_,hp,hn0,hn1,hpq,hq,_⟩
   · exact absurd h.1 he
   by_cases h6:1024<n
   · have hr:Oct.rdList s.data.toList p=([],0,3):=by unfold Oct.rdList;rw[hn];simp only;rw[if_neg he,if_pos h6]
     unfold ListEnds
     rw[hr]
     have hd:decide (1024<n)=true:=by simpa using h6
     clear he hr
     have Hv:=yh hv;clear hv hn
     go_enter Tryz.func80,Tryz.ntmps80
     go_wp2_with fail
     refine(ya5 s p _ hs).mono ?_
     rintro e w1 ⟨rfl,rfl⟩
     rw[Hv.out]
     unfold three
     go_wp2
     go_ret3
     exact⟨_,rfl,hnil _,Below.refl _ _⟩
   have hd:decide (1024<n)=false:=by simpa using h6
   obtain⟨m,rfl⟩:=Int.eq_ofNat_of_zero_le hn0
   have hr:Oct.rdList s.data.toList p=finish (Oct.rdGo s.data.toList m 65536 q):=by
    unfold Oct.rdList;rw[hn];simp only;rw[if_neg he,if_neg h6,Int.toNat_natCast]
    cases Oct.rdGo s.data.toList m 65536 q <;> rfl
   have hlen:=Oct.ya9 s
   rw[hlen]at hq
   have Hr:=yh hr
   have Hv:=yh hv
   clear hv hn he hr hlen
   go_enter Tryz.func80,Tryz.ntmps80
   go_wp2_with fail
   refine(ya5 s p _ hs).mono ?_
   rintro e w1 ⟨rfl,rfl⟩
   rw[Hv.out]
   unfold three
   go_wp2_with fail
   go_loopw [1,9,10,27] (fun at_ left v i wr =>∃(k:Nat) (acc:List (List UInt8)) (lf:Nat) (b:Int),k≤m∧acc.length=k∧lf≤65536∧0≤b∧b≤s.size∧i=.int .i64 k∧at_=.int .i64 b∧left=.int .i64 lf∧
    wr.ownsRow w.heap.size 9 1 v acc.length (acc.map S)∧Below w.heap.size w wr∧Oct.rdGo s.data.toList m 65536 q=more acc (Oct.rdGo s.data.toList (m-k) lf b)) (fun _ _ _ i _=>m-(intOf i).toNat)
   case atStart=>exact⟨0,[],65536,q,by omega,rfl,by omega,by omega,hq,rfl,rfl,rfl,World.ownsRow_nil _ _ _ _,Below.refl _ _,by rw[yi1,Nat.sub_zero]⟩
   case round=>
    obtain⟨k,acc,lf,b,hk,hacc,hlf,hb0,hb1,rfl,rfl,rfl,hown,hbel,hrem⟩:=hrel
    have Hacc:=yh hacc
    have Hrem:=yh hrem
    clear hacc hrem
    by_cases hlt:k<m
    · rcases ht:Oct.rdText s.data.toList b with⟨t,b2,e2⟩
      have hok:=Oct.yew ht
      have Ht:=yh ht
      clear ht
      obtain⟨j,hj⟩ :∃j,m-k=j+1:=⟨m-k-1,by omega⟩
      have hrem:=Hrem.out
      rw[hj]at hrem
      by_cases he2:e2≠0
      · have hfin:Oct.rdList s.data.toList p=([],0,e2):=by rw[Hr.out,hrem,yi2 Ht.out he2];rfl
        have Hfin:=yh hfin
        have hd:(e2 != 0)=true:=by rw[bne_iff_ne];exact he2
        clear hfin hrem hj hok he2
        go_wp2_with fail
        refine(ycc s b _ hs).mono ?_
        rintro e w1 ⟨rfl,hb2⟩
        rw[Ht.out]
        go_wp2_with fail
        go_ret3
        unfold ListEnds
        rw[Hfin.out]
        exact⟨_,rfl,hnil _,hbel.trans (hb2.mono hbel.size)⟩
      obtain rfl:e2=0:=by omega
      rcases hok with h|⟨_,_,ht64,hbb,hb2s,_⟩
      · exact absurd h.1 he2
      rw[Oct.ya9]at hb2s
      by_cases hbig:lf<t.length
      · have hfin:Oct.rdList s.data.toList p=([],0,3):=by rw[Hr.out,hrem,yi3 Ht.out hbig];rfl
        have Hfin:=yh hfin
        have hd1:decide ((lf:Int)<(t.length:Int))=true:=by simp;omega
        have hd2:decide (lf<t.length)=true:=by simp;omega
        clear hfin hrem hj he2
        go_wp2_with fail
        refine(ycc s b _ hs).mono ?_
        rintro e w1 ⟨rfl,hb2⟩
        rw[Ht.out]
        go_wp2_with fail
        go_ret3
        unfold ListEnds
        rw[Hfin.out]
        exact⟨_,rfl,hnil _,hbel.trans (hb2.mono hbel.size)⟩
      · rw[yg2 Ht.out hbig]at hrem
        have hj':j=m-(k+1):=by omega
        subst hj'
        have Hrem2:=yh hrem
        have hd1:decide ((lf:Int)<(t.length:Int))=false:=by simp;omega
        have hd2:decide (lf<t.length)=false:=by simp;omega
        clear hrem hj he2
        go_wp2_with fail
        refine(ycc s b _ hs).mono ?_
        rintro e w1 ⟨rfl,hb2⟩
        rw[Ht.out]
        have hown1:=(yb8 hown hb2).alloc (.cells #[S t] 9)
        have hal:=Hacc.out
        have hbel1:=(hbel.trans (hb2.mono hbel.size)).alloc (hbel.trans (hb2.mono hbel.size)).size (.cells #[S t] 9)
        have hsz:=hbel1.size
        have c3:acc.length+1≤maxLen:=by unfold maxLen;omega
        have c4:(acc.length+1)*16≤140737488355328:=by omega
        have hc1:=yh4 w1 9 (S t)
        have Hown1:=yh hown1
        have Hc1:=yh hc1
        clear hown hown1 hc1 hal
        go_wp2_with (at_builtin;refine wpList_append_own _ rfl (.tmp 48) (.tmp 50) _ rfl w.heap.size 9 i0 _ 1 16 Tryz.underlying56 Hi.out Hz0.out Hz1.out Hz2.out rfl (by decide) u10 acc.length (acc.map S) rfl Hown1.out ⟨w1.heap.size,0,none⟩ 1 1 [S t] rfl rfl Hc1.out (by simp[Value.oneCell']) c3 c4 hsz ?_;intro v2 w2 hown2 hgr2 _)
        refine⟨⟨k+1,acc ++ [t],lf-t.length,b2,by omega,by rw[List.length_append,Hacc.out];rfl,by omega,by omega,hb2s,by go_num,rfl,?_,?_,hbel1.grown hgr2 hsz (fun g hg=>(Hown1.out.lt g hg).1),Hrem2.out⟩,by simp[intOf];omega⟩
        · congr 1;omega
        · simpa using hown2
    · obtain rfl:k=m:=by omega
      have hfin:Oct.rdList s.data.toList p=(acc,b,0):=by rw[Hr.out,Hrem.out,Nat.sub_self];simp[Oct.rdGo,more,finish]
      have Hfin:=yh hfin
      have Hown:=yh hown
      clear hfin hown
      go_wp2_with fail
      go_ret3
      unfold ListEnds
      rw[Hfin.out]
      exact⟨_,rfl,ycy Hown.out,hbel⟩
theorem list_some (s:ByteArray)(L:List (List UInt8))(w:World)(hs:s.size≤9223372036854775807)(h:Tx.listAll s.data.toList=some L):
 Calls Tryz.prog 179 #[.string s] w fun e w' =>∃v,e=.returned (.tuple #[v,.int .i64 0])∧TextsV w' v L∧Below w.heap.size w w':=by
 unfold Tx.listAll at h
 split at h
 · next h1=>
   obtain⟨h2,h3⟩:=h1
   have hL:(Oct.rdList s.data.toList 0).1=L:=by simpa using h
   have RL:=yda s 0 w hs
   unfold ListEnds at RL
   rw[h2,h3,hL]at RL
   have hq:(s.data.toList.length:Int)=(s.size:Int):=by rw[Array.length_toList];rfl
   rw[hq]at RL
   have HRL:=yh RL
   clear h h2 h3 hL hq RL
   go_enter Tryz.func179,Tryz.ntmps179
   go_wp2_with fail
   refine HRL.out.mono ?_
   rintro _ w1 ⟨v,rfl,hT,hb⟩
   have HT:=yh hT
   have Hb:=yh hb
   clear hT hb
   go_wp2_with fail
   go_ret2
   exact⟨_,rfl,HT.out,Hb.out⟩
 · cases h
end Go.Proofs.YtalfnadejpmjnaaGreatDoor.Cap
namespace Go.Proofs.YtalfnadejpmjnaaGreatDoor
section
open Go.RowKit
theorem ybe (n:Int)(w:World):
 Calls Tryz.prog 150 #[.int .i64 n] w fun e w'=>e=.returned (.bool (Tx.num n))∧w=w':=by
 unfold Tx.num
 by_cases h:0≤n
 · have hd:decide (0≤n)=true:=by simpa using h
   have Hd:=yh hd
   clear hd
   go_enter Tryz.func150,Tryz.ntmps150
   go_wp2
   go_ret
   exact⟨by rw[Hd.out];rfl,rfl⟩
 · have hd:decide (0≤n)=false:=by simpa using h
   have Hd:=yh hd
   clear hd
   go_enter Tryz.func150,Tryz.ntmps150
   go_wp2
   go_ret
   exact⟨by rw[Hd.out];rfl,rfl⟩
end
section
open Go.RowKit
theorem ypw {w w1:World}{base nb n:Nat}{e t:TypeId}{size:Nat}{v:Value}{xs ys:List Value}(h:Row w nb t ys)(hlt:nb<base)(hown:w.ownsRow base e size v n xs)(hg:w.grownBy w1 v.ownBlock):Row w1 nb t ys:=
 h.kept hg (fun hh=>by have:=(hown.lt nb hh.symm).1;omega)
theorem yd5 {w w1 w2:World}{base n:Nat}{e:TypeId}{size:Nat}{v:Value}{xs:List Value}(hb:Below base w w1)(hs:base≤w1.heap.size)(hown:w1.ownsRow base e size v n xs)(hg:w1.grownBy w2 v.ownBlock):Below base w w2:=
 hb.grown hg hs (fun k hk=>(hown.lt k hk).1)
theorem ylu (ns:List Int)(c:Nat)(hns :∀n∈ns,0≤n∧n≤9223372036854775807)(w:World)(nb:Nat)(hN:Row w nb 3 (Is ns))(hlen:ns.length≤900):
 Calls Tryz.prog 162 #[.slice (some ⟨nb,0,none⟩) ns.length c] w fun e w' =>∃v,e=.returned v∧w'.ownsRow w.heap.size 9 1 v ns.length ((ns.map fun n=>Oct.num n.toNat).map S)∧Below w.heap.size w w':=by
 obtain⟨i0,hi,h2⟩:=Option.map_eq_some_iff.1 ydy
 simp only[Prod.mk.injEq]at h2
 obtain⟨hz,hs,hby⟩:=h2
 have Hi:=yh hi
 have Hz:=yh hz
 have Hs:=yh hs
 have Hby:=yh hby
 have HN:=yh hN
 have Hns:=yh hns
 have hnb:=hN.lt
 obtain⟨m,hm⟩ :∃m,m=ns.length:=⟨_,rfl⟩
 rw[←hm]at hlen ⊢
 have Hm:=yh hm
 clear hi hz hs hby hN hns hm
 go_enter Tryz.func162,Tryz.ntmps162
 go_wp2_with (with_reducible show wpList _ _ _ (⟨_, .makeSlice _ _ _, _, _, _, _⟩ :: _) _ _
              refine wpList_make_own w rfl _ _ 56 rfl w.heap.size 9 i0 (.string ByteArray.empty) 1 Tryz.underlying56 Hi.out Hz.out Hs.out .i64 .i64 ((m:Int)+2) (m+2) rfl rfl (by omega) (by rw[Hby.out];omega) (by unfold maxLen;omega) (Nat.le_refl _) ?_
              intro w1 hown1 hg1
              have Hown1:=yh hown1
              have HN1:=yh (HN.out.kept hg1 (by simp))
              have Hb1:=yh ((Below.refl w.heap.size w).grown hg1 (Nat.le_refl _) (fun k hk=>by cases hk))
              clear hown1 hg1)
 go_loopw [3,14] (fun v i wr =>∃k:Nat,k≤m∧i=.int .i64 k∧wr.ownsRow w.heap.size 9 1 v k (((ns.take k).map fun n=>Oct.num n.toNat).map S)∧Row wr nb 3 (Is ns)∧Below w.heap.size w wr) (fun _ i _=>m-(intOf i).toNat)
 case atStart=>exact⟨0,Nat.zero_le _,rfl,by simpa using Hown1.out,HN1.out,Hb1.out⟩
 case round=>
  obtain⟨k,hk,rfl,hown,hNr,hbr⟩:=hrel
  have HNr:=yh hNr
  have Hbr:=yh hbr
  have Hown:=yh hown
  clear hNr hbr hown Hown1 HN1 Hb1 HN
  by_cases hlt:k<m
  · have hki:(k:Int)<(m:Int):=by omega
    have hkn:k<ns.length:=by rw[←Hm.out];exact hlt
    have cn:=HNr.out.num k hkn
    obtain⟨x,hx⟩ :∃x,x=ns.getD k 0:=⟨_,rfl⟩
    have hxn:ns[k]=x:=by rw[hx];simp[List.getD,hkn]
    have hxb:=Hns.out x (by rw[←hxn];exact List.getElem_mem hkn)
    have htk:((ns.take (k+1)).map fun n=>Oct.num n.toNat).map S=((ns.take k).map fun n=>Oct.num n.toNat).map S ++ [S (Oct.num x.toNat)]:=by
     rw[List.take_succ_eq_append_getElem hkn,List.map_append,List.map_append,hxn];rfl
    rw[←hx]at cn
    have Htk:=yh htk
    generalize ((ns.take k).map fun n=>Oct.num n.toNat).map S=K at *
    clear htk hx hxn hkn
    go_wp2_with fail
    refine(yka x _ hxb.1 hxb.2).mono ?_
    rintro _ w1 ⟨rfl,hb1⟩
    have hg1:=yae hb1 none
    have hown1:=Hown.out.kept hg1 (by cases u3.ownBlock <;> simp)
    have hN1:=HNr.out.kept hg1 (by simp)
    have hb1':=yaa Hbr.out hb1
    have hown2:=hown1.alloc (.cells #[S (Oct.num x.toNat)] 9)
    have hN2:=hN1.kept (yaw w1 (.cells #[S (Oct.num x.toNat)] 9) none) (by simp)
    have hb2:Below w.heap.size w (w1.alloc (.cells #[S (Oct.num x.toNat)] 9)):=hb1'.alloc hb1'.size _
    have hsz2:w.heap.size≤(w1.alloc (.cells #[S (Oct.num x.toNat)] 9)).heap.size:=hb2.size
    have hk63:k+1≤maxLen:=by unfold maxLen;omega
    have hk48:((k+1)+(k+1) / 4+192)*16≤281474976710656:=by omega
    have Hown2:=yh hown2
    have HN2:=yh hN2
    have Hb2:=yh hb2
    clear hb1 hg1 hown1 hN1 hb1' hown2 hN2 hb2 Hown HNr Hbr cn
    go_wp2_with (at_builtin; refine wpList_append_own_wide _ rfl (.tmp 23) (.tmp 25) 56 rfl w.heap.size 9 i0 (.string ByteArray.empty) 1 16 Tryz.underlying56 Hi.out Hz.out Hs.out Hby.out rfl (by decide) _ _ _ rfl Hown2.out ⟨w1.heap.size, 0, none⟩ 1 1 [S (Oct.num x.toNat)] rfl rfl (yfx _ _ _) (yey _) hk63 hk48 hsz2 ?_
                 intro v' w3 hown3 hgrow3 _
                 obtain⟨g,cap,rfl⟩:=ownsRow_succ hown3
                 have HN3:=yh (ypw HN2.out hnb Hown2.out hgrow3)
                 have Hb3:=yh (yd5 Hb2.out hsz2 Hown2.out hgrow3)
                 have Hown3:=yh hown3
                 clear hown3 hgrow3)
    refine⟨⟨k+1,hlt,by go_num,by rw[Htk.out];exact Hown3.out,HN3.out,Hb3.out⟩,by simp[intOf];omega⟩
  · have hki:(m:Int)≤(k:Int):=by omega
    have ekm:k=m:=by omega
    subst ekm
    have hown:=Hown.out
    rw[List.take_of_length_le (by rw[←Hm.out];omega)]at hown
    have Hown':=yh hown
    clear hown
    go_wp2_with fail
    go_ret
    exact⟨_,rfl,Hown'.out,Hbr.out⟩
end
section
open Go.RowKit
def Item.v (kd who n:Int)(s:ByteArray):Value:=.agg #[.int .i64 kd,.int .i64 who,.int .i64 n,.string s]
def Item.ok (kd who n:Int)(s:ByteArray):Bool:=
 if (kd == 1)=true∨(kd == 3)=true then decide (0≤who∧who≤64∧(n == 0)=true∧(s.size:Int)≤65472)
 else if (kd == 2)=true∧(who == 0)=true∧Tx.num n=true then s.toList.isEmpty else false
end
section
open Go.RowKit
namespace No
abbrev T8:=List UInt8
def raw:Nat→List T8→Option (List Int)
 | 0,_=>some []
 | _+1,[]=>none
 | n+1,s::r=>match Tx.numAll s with
   | none=>none
   | some x=>(raw n r).map (x :: ·)
def nums:Nat→List T8→Option (List Int)
 | 0,_=>some []
 | _+1,[]=>none
 | n+1,s::r=>match Tx.numAll s with
   | none=>none
   | some x=>if Tx.num x=true then (nums n r).map (x :: ·) else none
theorem ykn (s:ByteArray):s.toList.isEmpty=true↔s.data.toList=[]:=by
 rw[←decide_eq_emptyBytes,decide_eq_true_eq]
 constructor
 · rintro rfl;rfl
 · intro h
   have:s.data=#[]:=Array.toList_inj.1 h
   cases s
   simp only at this
   subst this
   rfl
theorem yg0 {x:Int} : Tx.num x=true↔0≤x∧x≤1099511627776:=by unfold Tx.num;simp
theorem ytu {x:Int} : Tx.acct x=true↔0≤x∧x≤63:=by unfold Tx.acct;simp
end No
structure It where
 kind:Int
 who:Int
 n:Int
 text:ByteArray
namespace It
def v (i:It):Value:=.agg #[.int .i64 i.kind,.int .i64 i.who,.int .i64 i.n,.string i.text]
def ok (i:It):Bool:=Item.ok i.kind i.who i.n i.text
def zero:It:=⟨0,0,0,ByteArray.empty⟩
def fields (i:It):List No.T8:=[Oct.num i.kind.toNat,Oct.num i.who.toNat,Oct.num i.n.toNat,i.text.data.toList]
def textE (i:It):No.T8×Int:=if i.ok=true then Oct.listE i.fields else ([],2)
def of (ns:List Int)(rest:List No.T8):Option It:=
 match ns,rest with
 | [a,b,c],[t]=>if (It.mk a b c ⟨t.toArray⟩).ok=true then some ⟨a,b,c,⟨t.toArray⟩⟩ else none
 | _,_=>none
def read (s:No.T8):Option It:=(Tx.listAll s).bind fun l=>(No.raw 3 l).bind fun ns=>of ns (l.drop 3)
theorem ydg (i:It):i.ok=true↔(((i.kind=1∨i.kind=3)∧0≤i.who∧i.who≤64∧i.n=0∧(i.text.size:Int)≤65472)∨(i.kind=2∧i.who=0∧0≤i.n∧i.n≤1099511627776∧i.text.data.toList=[])):=by
 unfold ok Item.ok
 split
 · next h=>
   simp only[beq_iff_eq]at h
   simp only[beq_iff_eq,decide_eq_true_eq]
   constructor
   · intro hh;exact .inl ⟨h,hh⟩
   · rintro(⟨_,hh⟩|⟨hh,_⟩)
     · exact hh
     · omega
 · next h=>
   simp only[beq_iff_eq]at h
   split
   · next h2=>
     simp only[beq_iff_eq,No.yg0]at h2
     constructor
     · intro hh
       refine .inr ⟨h2.1,h2.2.1,h2.2.2.1,h2.2.2.2,?_⟩
       exact(No.ykn _).1 hh
     · rintro(⟨hh,_⟩|⟨_,_,_,_,hh⟩)
       · exact absurd hh h
       · exact(No.ykn _).2 hh
   · next h2=>
     simp only[beq_iff_eq,No.yg0]at h2
     constructor
     · intro hh;cases hh
     · rintro(⟨hh,_⟩|⟨h3,h4,h5,h6,_⟩)
       · exact absurd hh h
       · exact absurd ⟨h3,h4,h5,h6⟩ h2
end It
structure Bd where
 round:Int
 who:Int
 amount:Int
 salt:Int
 tag:List UInt8
namespace Bd
def cells (b:Bd):List Value:=[.int .i64 b.round,.int .i64 b.who,.int .i64 b.amount,.int .i64 b.salt]++(bRow b.tag).toList
def v (b:Bd):Value:=.agg b.cells.toArray
def ok (b:Bd):Bool:=Tx.acct b.who&&(Tx.num b.round&&(Tx.num b.amount&&Tx.num b.salt))
def zero:Bd:=⟨0,0,0,0,Tx.zero⟩
def numsL (b:Bd):List Int:=[b.round,b.who,b.amount,b.salt]
def body (b:Bd):No.T8:=(Oct.listE (b.numsL.map fun x=>Oct.num x.toNat)).1
def fields (b:Bd):List No.T8:=(b.numsL.map fun x=>Oct.num x.toNat) ++ [b.tag]
def textE (b:Bd):No.T8×Int:=if b.ok=true then Oct.listE b.fields else ([],2)
def of (ns:List Int)(rest:List No.T8):Option Bd:=
 match ns,rest with
 | [a,b,c,d],[t]=>if t.length=32∧(Bd.mk a b c d t).ok=true then some ⟨a,b,c,d,t⟩ else none
 | _,_=>none
def read (s:No.T8):Option Bd:=(Tx.listAll s).bind fun l=>(No.raw 4 l).bind fun ns=>of ns (l.drop 4)
structure Fits (b:Bd):Prop where
 tag:b.tag.length=32
 round:Tx.fits b.round
 who:Tx.fits b.who
 amount:Tx.fits b.amount
 salt:Tx.fits b.salt
theorem ydg (b:Bd):b.ok=true↔(0≤b.who∧b.who≤63)∧(0≤b.round∧b.round≤1099511627776)∧(0≤b.amount∧b.amount≤1099511627776)∧(0≤b.salt∧b.salt≤1099511627776):=by
 unfold ok
 simp only[Bool.and_eq_true,No.yg0,No.ytu]
theorem ylt {b:Bd}(h:b.ok=true) :∀x∈b.numsL,0≤x∧x≤9223372036854775807:=by
 rw[ydg]at h
 intro x hx
 simp[numsL]at hx
 rcases hx with rfl|rfl|rfl|rfl <;> omega
end Bd
structure Rp where
 index:Int
 kind:Int
 time:Int
 body:ByteArray
 prev:List UInt8
 hash:List UInt8
namespace Rp
def cells (r:Rp):List Value:=[.int .i64 r.index,.int .i64 r.kind,.int .i64 r.time,.string r.body]++((bRow r.prev).toList++(bRow r.hash).toList)
def v (r:Rp):Value:=.agg r.cells.toArray
def ok (r:Rp):Bool:=((r.kind == 1)||(r.kind == 2))&&(Tx.num r.index&&(Tx.num r.time&&decide ((r.body.size:Int)≤656)))
def zero:Rp:=⟨0,0,0,ByteArray.empty,Tx.zero,Tx.zero⟩
def numsL (r:Rp):List Int:=[r.index,r.kind,r.time]
def texts (r:Rp):List No.T8:=(r.numsL.map fun x=>Oct.num x.toNat) ++ [r.body.data.toList]
def link (r:Rp):List UInt8:=Sha.sum (r.prev++(Oct.listE r.texts).1)
def linked (r:Rp):Rp:={ r with hash:=r.link }
def linkE (r:Rp):Rp×Int:=if r.ok=true then (r.linked,0) else (zero,2)
def fields (r:Rp):List No.T8:=r.texts ++ [r.prev,r.hash]
def textE (r:Rp):No.T8×Int:=if r.ok=true then (if r.hash=r.link then Oct.listE r.fields else ([],7)) else ([],2)
def of (ns:List Int)(rest:List No.T8):Option Rp:=
 match ns,rest with
 | [a,b,c],[t,p,h]=>if (p.length=32∧h.length=32)∧(Rp.mk a b c ⟨t.toArray⟩ p h).ok=true∧h=(Rp.mk a b c ⟨t.toArray⟩ p h).link then some ⟨a,b,c,⟨t.toArray⟩,p,h⟩ else none
 | _,_=>none
def read (s:No.T8):Option Rp:=(Tx.listAll s).bind fun l=>(No.raw 3 l).bind fun ns=>of ns (l.drop 3)
structure Fits (r:Rp):Prop where
 prev:r.prev.length=32
 hash:r.hash.length=32
 body:r.body.size≤140737488351232
 index:Tx.fits r.index
 kind:Tx.fits r.kind
 time:Tx.fits r.time
theorem ydg (r:Rp):r.ok=true↔(r.kind=1∨r.kind=2)∧(0≤r.index∧r.index≤1099511627776)∧(0≤r.time∧r.time≤1099511627776)∧(r.body.size:Int)≤656:=by
 unfold ok
 simp only[Bool.and_eq_true,Bool.or_eq_true,No.yg0,beq_iff_eq,decide_eq_true_eq]
theorem ylt {r:Rp}(h:r.ok=true) :∀x∈r.numsL,0≤x∧x≤9223372036854775807:=by
 rw[ydg]at h
 intro x hx
 simp[numsL]at hx
 rcases hx with rfl|rfl|rfl <;> omega
theorem ybf (r:Rp):r.link.length=32:=Sha.ygh _
end Rp
abbrev Pt:=Bool×List UInt8
namespace Pt
def ok (p:Pt):Bool:=decide (p.2.length≤656) && !(p.1 && !p.2.isEmpty)
def lay (p:Pt):No.T8:=if p.1=true then [2] else 1::p.2
def of (s:No.T8):Option Pt:=if s=[2] then some (true,[]) else match s with
 | c::r=>if c=1 then some (false,r) else none
 | []=>none
def all:List No.T8→Option (List Pt)
 | []=>some []
 | s::r=>match of s with
   | none=>none
   | some p=>(all r).map (p :: ·)
end Pt
structure Bt where
 seq:Int
 first:Int
 before:Int
 parts:List Pt
namespace Bt
def ok (b:Bt):Bool:=(Tx.num b.seq&&(Tx.num b.first&&Tx.num b.before))&&(decide (b.parts.length≤512)&&b.parts.all Pt.ok)
def zero:Bt:=⟨0,0,0,[]⟩
def numsL (b:Bt):List Int:=[b.seq,b.first,b.before]
def fields (b:Bt):List No.T8:=(b.numsL.map fun x=>Oct.num x.toNat)++b.parts.map Pt.lay
def textE (b:Bt):No.T8×Int:=if b.ok=true then Oct.listE b.fields else ([],2)
def of (ns:List Int)(rest:List No.T8):Option Bt:=
 match ns,Pt.all rest with
 | [a,b,c],some ps=>if (Bt.mk a b c ps).ok=true then some ⟨a,b,c,ps⟩ else none
 | _,_=>none
def read (s:No.T8):Option Bt:=(Tx.listAll s).bind fun l=>(No.raw 3 l).bind fun ns=>of ns (l.drop 3)
theorem ydg (b:Bt):b.ok=true↔((0≤b.seq∧b.seq≤1099511627776)∧(0≤b.first∧b.first≤1099511627776)∧(0≤b.before∧b.before≤1099511627776))∧b.parts.length≤512∧b.parts.all Pt.ok=true:=by
 unfold ok
 simp only[Bool.and_eq_true,No.yg0,decide_eq_true_eq]
theorem ylt {b:Bt}(h:b.ok=true) :∀x∈b.numsL,0≤x∧x≤9223372036854775807:=by
 rw[ydg]at h
 intro x hx
 simp[numsL]at hx
 rcases hx with rfl|rfl|rfl <;> omega
end Bt
end
section
open Go.RowKit
namespace No
end No
end
section
open Go.RowKit
def RowIn (w0 W:World)(g:Nat)(T:TypeId)(C:List Value):Prop:=Row W g T C∧Below w0.heap.size w0 W
theorem RowIn.step {w0 W W':World}{g:Nat}{T:TypeId}{C:List Value}(h:RowIn w0 W g T C)(hb:Below W.heap.size W W'):RowIn w0 W' g T C:=
 ⟨h.1.kept (yae hb none) (by simp),yaa h.2 hb⟩
theorem RowIn.grown {w0 W W':World}{g:Nat}{T:TypeId}{C:List Value}{r:Option Nat}(h:RowIn w0 W g T C)(hg:W.grownBy W' r)(hr :∀k,r=some k→w0.heap.size≤k)(hne:some g≠r):RowIn w0 W' g T C:=
 ⟨h.1.kept hg hne,h.2.grown hg h.2.size hr⟩
theorem RowIn.drew {w0 W:World}{g:Nat}{T:TypeId}{C:List Value}(h:RowIn w0 W g T C):RowIn w0 W.drew g T C:=h.step (Below.refl _ _).drew
theorem RowIn.size {w0 W:World}{g:Nat}{T:TypeId}{C:List Value}(h:RowIn w0 W g T C):w0.heap.size≤W.heap.size:=h.2.size
theorem ye9 {w w1:World}{T:TypeId}{C:List Value}(h:Below (w.alloc (.cells C.toArray T)).heap.size (w.alloc (.cells C.toArray T)) w1):RowIn w w1 w.heap.size T C:=
 ⟨(Row.new w T C).kept (yae h none) (by simp),ya0 (yae h none)⟩
theorem yeu {W:World}{g:Nat}{T:TypeId}{xs:List Value}(h:Row W g T xs) :∀j u,xs[j]? = some u→W.cell? ((⟨g,0,none⟩:Addr).add j)=some u:=by
 intro j u hj
 obtain⟨hlt,he⟩:=List.getElem?_eq_some_iff.1 hj
 have e:(⟨g,0,none⟩:Addr).add j=⟨g,j,none⟩:=by unfold Addr.add;split <;> simp_all
 rw[e,h.cell j hlt,he]
theorem yd1 {w0 W W':World}{base n:Nat}{v:Value}{xs:List Value}{g:Nat}{T:TypeId}{C:List Value}(h:RowIn w0 W g T C)(hT:T≠9)(hown:W.ownsRow base 9 1 v n xs)(hb:w0.heap.size≤base)(hg:W.grownBy W' v.ownBlock):RowIn w0 W' g T C:=
 h.grown hg (fun k hk=>Nat.le_trans hb (hown.lt k hk).1) (ycm h.1 hT hown)
theorem yfe (L:List (List UInt8)){base k:Nat}{v:Value}{W:World}{xs:List Value}(hx:xs=L.map S)(h:W.ownsRow base 9 1 v (k+1) xs)(hk:k+1=L.length):
 Calls Tryz.prog 95 #[v] W fun e w'=>e=.returned (.tuple #[S (Oct.listE L).1,.int .i64 (Oct.listE L).2])∧Below W.heap.size W w':=by
 subst hx
 obtain⟨g,cap,rfl⟩:=ownsRow_succ h
 exact yi4 L base g (k+1) cap W h hk
end
section
open Go.RowKit
namespace It
def cells (i:It):List Value:=[.int .i64 i.kind,.int .i64 i.who,.int .i64 i.n,.string i.text]
end It
theorem str5 :∃i0:TypeInfo,Tryz.prog.info? 9=some i0∧i0.zero=some (.string ByteArray.empty)∧i0.size=1∧i0.bytes=16:=by
 obtain⟨i0,hi,h2⟩:=Option.map_eq_some_iff.1 ydy
 simp only[Prod.mk.injEq]at h2
 exact⟨i0,hi,h2.1,h2.2.1,h2.2.2⟩
end
section
open Go.RowKit
namespace No
end No
end
section
open Go.RowKit
theorem ych (n:Int)(w:World)(h0:0≤n)(h1:n≤9223372036854775807):
 Calls Tryz.prog 132 #[.int .i64 n] w fun e w'=>e=.returned (S (Oct.num n.toNat))∧Below w.heap.size w w':=by
 have RN:Hid (∀W,Calls Tryz.prog 135 #[.int .i64 n] W fun e w'=>e=.returned (.tuple #[S (Oct.num n.toNat),.int .i64 0])∧Below W.heap.size W w'):=fun W=>by
  have:=ycu n W h1
  unfold Oct.numE at this
  rw[if_neg (by omega)]at this
  exact this
 go_enter Tryz.func132,Tryz.ntmps132
 go_wp2_with fail
 refine(RN.out _).mono ?_
 rintro _ w1 ⟨rfl,hb1⟩
 have Hb1:=yh hb1
 clear hb1
 go_wp2_with fail
 go_ret
 exact⟨rfl,Hb1.out⟩
theorem yjx (L:List (List UInt8))(base g k cap:Nat)(W:World)(h:W.ownsRow base 9 1 (.slice (some ⟨g,0,none⟩) k cap) k (L.map S))(hk:k=L.length):
 Calls Tryz.prog 133 #[.slice (some ⟨g,0,none⟩) k cap] W fun e w'=>e=.returned (.tuple #[S (Oct.listE L).1,.int .i64 (Oct.listE L).2])∧Below W.heap.size W w':=by
 subst hk
 obtain⟨A,c,hA,hT⟩:=ycy h
 obtain⟨rfl,rfl⟩:some (⟨g,0,none⟩:Addr)=A∧cap=c:=by simpa using hA
 exact ygn _ _ L W hT
theorem yqd (w:World)(base k:Nat)(L:List (List UInt8))(hk:k=L.length)(hb:base≤w.heap.size)(hl:k≤1000):(w.alloc (.cells (L.map S).toArray 9)).ownsRow base 9 1 (.slice (some ⟨w.heap.size,0,none⟩) k k) k (L.map S):=by
 subst hk
 refine⟨by simp,.inr ⟨w.heap.size,L.length,(L.map S).toArray,rfl,hb,heap_alloc_new w _,Nat.le_refl _,by unfold maxLen;omega,by simp,by simp[List.take_of_length_le]⟩⟩
def BodyIn (w0 W:World)(g:Nat)(C:List Value):Prop:=Row W g 81 C∧Below w0.heap.size w0 W
theorem BodyIn.step {w0 W W':World}{g:Nat}{C:List Value}(h:BodyIn w0 W g C)(hb:Below W.heap.size W W'):BodyIn w0 W' g C:=
 ⟨h.1.kept (yae hb none) (by simp),yaa h.2 hb⟩
theorem you {t:Tx}(ht:t.Ok){w0 W:World}{g:Nat}(h:BodyIn w0 W g t.cells):BodyIn w0 W g t.cells∧W.cell? ⟨g,0,none⟩=some (.int .i64 t.frm)∧W.cell? ⟨g,1,none⟩=some (.int .i64 t.nonce)∧W.cell? ⟨g,2,none⟩=some (.int .i64 t.fee)∧W.cell? ⟨g,3,none⟩=some (.int .i64 t.to)∧
 W.cell? ⟨g,4,none⟩=some (.string t.data)∧W.cell? ⟨g,5,none⟩=some (.bool t.lane)∧W.cell? ⟨g,6,none⟩=some (.int .i64 t.round)∧W.cell? ⟨g,7,none⟩=some (.int .i64 t.turn):=⟨h,ybp ht h.1⟩
theorem BodyIn.grow {w0 W W':World}{g k:Nat}{C:List Value}(h:BodyIn w0 W g C)(hg:W.grownBy W' (some k))(h1:w0.heap.size≤k)(h2:g≠k):BodyIn w0 W' g C:=
 ⟨h.1.kept hg (by simpa using h2),h.2.grown hg h.2.size (fun j hj=>by cases hj;exact h1)⟩
theorem yqg {W0 W1 W2:World}{base size n:Nat}{e:TypeId}{v:Value}{xs:List Value}(h:W0.ownsRow base e size v n xs)(h1:Below W0.heap.size W0 W1)(h2:Below W1.heap.size W1 W2):W2.ownsRow base e size v n xs:=
 (h.kept (yae h1 none) (by cases v.ownBlock <;> simp)).kept (yae h2 none) (by cases v.ownBlock <;> simp)
theorem yow {W0 W1 W2:World}{base:Nat}(h0:base≤W0.heap.size)(h1:Below W0.heap.size W0 W1)(h2:Below W1.heap.size W1 W2)(o:Obj):base≤(W2.alloc o).heap.size:=by
 have a:=h1.size
 have b:=h2.size
 simp
 omega
theorem ypf (w:World)(t:TypeId)(a b:List UInt8) :∀j u,[S a,S b][j]? = some u→(w.alloc (.cells #[S a,S b] t)).cell? ((⟨w.heap.size,0,none⟩:Addr).add j)=some u:=by
 intro j u hj
 match j,hj with
 | 0,hj=>simp at hj;subst hj;simp[Addr.add]
 | 1,hj=>simp at hj;subst hj;simp[Addr.add]
theorem ypg (a b:List UInt8) :∀u∈[S a,S b],u.oneCell'=true:=by
 intro u hu
 simp at hu
 rcases hu with rfl|rfl <;> rfl
theorem ys0 (t:Tx)(ht:t.Ok)(w:World)(he:t.err≠0):
 Calls Tryz.prog 96 #[t.v] w fun e w'=>e=.returned (.tuple #[S t.bodyE.1,.int .i64 t.bodyE.2])∧Below w.heap.size w w':=by
 unfold Tx.bodyE
 rw[if_neg he]
 have hrng:=ya3 (Row.new w 81 t.cells)
 have hlen:=Tx.yag ht
 have CH:Hid (∀W,Calls Tryz.prog 76 #[.agg t.cells.toArray] W fun e w'=>e=.returned (.int .i64 t.err)∧Below W.heap.size W w'):=fun W=>yc1 t ht W
 have hne:(t.err != 0)=true:=by simpa using he
 show Calls _ _ #[.agg t.cells.toArray] _ _
 generalize t.cells=C at *
 generalize t.err=er at *
 have HL:=yh hlen
 have Hrng:=yh hrng
 clear hlen hrng he ht
 go_enter Tryz.func96,Tryz.ntmps96
 go_wp2_with (with_reducible show wpList _ _ _ (⟨_,.load 81 _,_,_,_,_⟩::_) _ _;refine yac rfl 81 (.tmp 1) rfl w.heap.size 0 rfl C _ Hrng.out Tryz.underlying81 rfl (by rw[yam,HL.out]) ?_)
 refine(CH.out _).mono ?_
 rintro _ w1 ⟨rfl,hb1⟩
 have Hb1:=yh (ya0 (yae hb1 none))
 clear hb1
 go_wp2_with fail
 go_ret2
 exact⟨rfl,Hb1.out⟩
theorem ysz (t:Tx)(ht:t.Ok)(w:World)(he:t.err=0):
 Calls Tryz.prog 96 #[t.v] w fun e w'=>e=.returned (.tuple #[S t.bodyE.1,.int .i64 t.bodyE.2])∧Below w.heap.size w w':=by
 have hB:t.bodyE=Oct.listE t.fields:=by unfold Tx.bodyE;rw[if_pos he]
 rw[hB]
 obtain⟨i0,hi,h2⟩:=Option.map_eq_some_iff.1 ydy
 simp only[Prod.mk.injEq]at h2
 obtain⟨hz,hs,hby⟩:=h2
 have Hi:=yh hi
 have Hz:=yh hz
 have Hs:=yh hs
 have Hby:=yh hby
 obtain⟨k1,k2,k3,k4,k5,k6,k7⟩:=Tx.yt3 he
 have hrow0:=Row.new w 81 t.cells
 have hrng:=ya3 hrow0
 have hlen:=Tx.yag ht
 have CH:Hid (∀W,Calls Tryz.prog 76 #[.agg t.cells.toArray] W fun e w'=>e=.returned (.int .i64 0)∧Below W.heap.size W w'):=fun W=>by
  have:=yc1 t ht W
  rw[he]at this
  exact this
 have BX:Hid (∀{w0 W:World}{g:Nat},BodyIn w0 W g t.cells→BodyIn w0 W g t.cells∧W.cell? ⟨g,0,none⟩=some (.int .i64 t.frm)∧W.cell? ⟨g,1,none⟩=some (.int .i64 t.nonce)∧W.cell? ⟨g,2,none⟩=some (.int .i64 t.fee)∧W.cell? ⟨g,3,none⟩=some (.int .i64 t.to)∧
  W.cell? ⟨g,4,none⟩=some (.string t.data)∧W.cell? ⟨g,5,none⟩=some (.bool t.lane)∧W.cell? ⟨g,6,none⟩=some (.int .i64 t.round)∧W.cell? ⟨g,7,none⟩=some (.int .i64 t.turn)):=fun h=>you ht h
 have N1:=yh (fun W=>ych t.frm W k1.1 (by omega))
 have N2:=yh (fun W=>ych t.nonce W k2.1 (by omega))
 have N3:=yh (fun W=>ych t.fee W k3.1 (by omega))
 have N4:=yh (fun W=>ych t.to W k4.1 (by omega))
 have N6:=yh (fun (hl:t.lane=true) W=>ych t.round W (k5 hl).1.1 (by have:=(k5 hl).1;omega))
 have N7:=yh (fun (hl:t.lane=true) W=>ych t.turn W (k5 hl).2.1 (by have:=(k5 hl).2;omega))
 have hfl:t.lane=false→t.fields=t.lays ++ [t.data.data.toList]:=by
  intro h
  unfold Tx.fields
  rw[if_neg (by rw[h];simp),List.append_nil]
 have hfy:t.lane=true→t.fields=(t.lays ++ [t.data.data.toList]) ++ [Oct.num t.round.toNat,Oct.num t.turn.toNat]:=by
  intro h
  unfold Tx.fields
  rw[if_pos h]
 have Hfl:=yh hfl
 have Hfy:=yh hfy
 have hly:t.lays=[Oct.num t.frm.toNat,Oct.num t.nonce.toNat,Oct.num t.fee.toNat,Oct.num t.to.toNat]:=rfl
 have Hly:=yh hly
 show Calls _ _ #[.agg t.cells.toArray] _ _
 generalize t.lays=Ly at *
 generalize t.cells=C at *
 generalize hn1:Oct.num t.frm.toNat=m1 at *
 generalize hn2:Oct.num t.nonce.toNat=m2 at *
 generalize hn3:Oct.num t.fee.toNat=m3 at *
 generalize hn4:Oct.num t.to.toNat=m4 at *
 generalize hn6:Oct.num t.round.toNat=m6 at *
 generalize hn7:Oct.num t.turn.toNat=m7 at *
 have HL:=yh hlen
 have Hrng:=yh hrng
 have Hrow0:=yh hrow0
 clear hi hz hs hby hrow0 hlen hrng hfl hfy hly hB he ht k1 k2 k3 k4 k5 k6 k7 hn1 hn2 hn3 hn4 hn6 hn7
 rcases Bool.eq_false_or_eq_true t.lane with hl|hl
 · have Hlane:=yh hl
   go_enter Tryz.func96,Tryz.ntmps96
   go_wp2_with (with_reducible show wpList _ _ _ (⟨_,.load 81 _,_,_,_,_⟩::_) _ _;refine yac rfl 81 (.tmp 1) rfl w.heap.size 0 rfl C _ Hrng.out Tryz.underlying81 rfl (by rw[yam,HL.out]) ?_)
   refine(CH.out _).mono ?_
   rintro _ w1 ⟨rfl,hb1⟩
   have hg1:=yae hb1 none
   have hS0:=BX.out (show BodyIn w w1.drew w.heap.size C from⟨(Hrow0.out.kept hg1 (by simp)).kept (ybh _ none) (by simp),(ya0 hg1).drew⟩)
   have HS0:=yh hS0
   clear hb1 hg1 hS0
   go_wp2_with fail
   have hS0:=HS0.out
   go_region_held3 (fun W=>BodyIn w W w.heap.size C∧W.cell? ⟨w.heap.size,0,none⟩=some (.int .i64 t.frm)∧W.cell? ⟨w.heap.size,1,none⟩=some (.int .i64 t.nonce)∧W.cell? ⟨w.heap.size,2,none⟩=some (.int .i64 t.fee)∧W.cell? ⟨w.heap.size,3,none⟩=some (.int .i64 t.to)∧
    W.cell? ⟨w.heap.size,4,none⟩=some (.string t.data)∧W.cell? ⟨w.heap.size,5,none⟩=some (.bool t.lane)∧W.cell? ⟨w.heap.size,6,none⟩=some (.int .i64 t.round)∧W.cell? ⟨w.heap.size,7,none⟩=some (.int .i64 t.turn))
    (first|assumption|exact hS0|(exact BX.out (BodyIn.step (And.left (by assumption)) (by assumption)))|(exact BX.out (BodyIn.step (And.left (by assumption)) ((Below.refl _ _).alloc (Nat.le_refl _) _))))
    (first
     | (go_at_call 132;with_reducible refine Calls.mono (N1.out _) ?_;rintro e w' ⟨rfl,hb⟩)
     | (go_at_call 132;with_reducible refine Calls.mono (N2.out _) ?_;rintro e w' ⟨rfl,hb⟩)
     | (go_at_call 132;with_reducible refine Calls.mono (N3.out _) ?_;rintro e w' ⟨rfl,hb⟩)
     | (go_at_call 132;with_reducible refine Calls.mono (N4.out _) ?_;rintro e w' ⟨rfl,hb⟩))
   rename_i gH
   have hin:=gH.1
   have c5:=gH.2.2.2.2.2.2.1
   have hsz:w.heap.size≤w'.heap.size:=by have:=hin.2.size;have h2:=hin.1.lt;simp at this h2;omega
   have hlt:w.heap.size<w'.heap.size+1:=by have h2:=hin.1.lt;simpa using h2
   have hgne:w.heap.size≠w'.heap.size:=fun e=>by
    have h1:=hin.1
    unfold Row at h1
    rw[e,heap_alloc_new w' _]at h1
    simp at h1
   have hown:=yqd w' w.heap.size 5 [m1,m2,m3,m4,t.data.data.toList] rfl hsz (by decide)
   have Hin:=yh hin
   have Hown:=yh hown
   clear gH hin hown HS0 hS0 hb
   generalize hWe:w'.alloc (.cells #[S m1,S m2,S m3,S m4,.string t.data] 9)=W5 at *
   have Hown5:Hid (W5.ownsRow w.heap.size 9 1 (.slice (some ⟨w'.heap.size,0,none⟩) 5 5) 5 ([m1,m2,m3,m4,t.data.data.toList].map S)):=by rw[←hWe];exact Hown
   clear hWe Hown
   generalize w'.heap.size=g5 at *
   have hS0:=BX.out (show BodyIn w W5.drew w.heap.size C from⟨Hin.out.1.kept (ybh _ none) (by simp),Hin.out.2.drew⟩)
   have Hownd:Hid (W5.drew.ownsRow w.heap.size 9 1 (.slice (some ⟨g5,0,none⟩) 5 5) 5 ([m1,m2,m3,m4,t.data.data.toList].map S)):=yh Hown5.out.drew
   have HS0:=yh hS0
   have hsz5:w.heap.size≤W5.drew.heap.size:=hS0.1.2.size
   have hl63:5+2≤maxLen:=by unfold maxLen;omega
   clear hS0
   go_wp2_with fail
   have hS0:=HS0.out
   go_region_held3 (fun W=>BodyIn w W w.heap.size C∧W.cell? ⟨w.heap.size,0,none⟩=some (.int .i64 t.frm)∧W.cell? ⟨w.heap.size,1,none⟩=some (.int .i64 t.nonce)∧W.cell? ⟨w.heap.size,2,none⟩=some (.int .i64 t.fee)∧W.cell? ⟨w.heap.size,3,none⟩=some (.int .i64 t.to)∧W.cell? ⟨w.heap.size,4,none⟩=some (.string t.data)∧W.cell? ⟨w.heap.size,5,none⟩=some (.bool t.lane)∧W.cell? ⟨w.heap.size,6,none⟩=some (.int .i64 t.round)∧W.cell? ⟨w.heap.size,7,none⟩=some (.int .i64 t.turn))
    (first|assumption|exact hS0|(exact BX.out (BodyIn.step (And.left (by assumption)) (by assumption)))|(exact BX.out (BodyIn.step (And.left (by assumption)) ((Below.refl _ _).alloc (Nat.le_refl _) _)))|(exact BX.out (BodyIn.grow (And.left (by assumption)) (by assumption) hsz hgne)))
    (first
     | (go_at_call 132;with_reducible refine Calls.mono (N6.out Hlane.out _) ?_;rintro e w' ⟨rfl,hb⟩)
     | (go_at_call 132;with_reducible refine Calls.mono (N7.out Hlane.out _) ?_;rintro e w' ⟨rfl,hb⟩)
     | (refine ygi rfl (.tmp 28) (.tmp 35) 56 rfl w.heap.size 9 i0 (.string ByteArray.empty) 1 16 Tryz.underlying56 Hi.out Hz.out Hs.out Hby.out rfl (by decide) (.slice (some ⟨g5,0,none⟩) 5 5) 5 ([m1,m2,m3,m4,t.data.data.toList].map S) (by rfl) ((yqg Hownd.out (by assumption) (by assumption)).alloc _) _ 2 2 [S m6,S m7] (by rfl) rfl (ypf _ _ _ _) (ypg _ _) (by decide) hl63 (by decide) (yow hsz5 (by assumption) (by assumption) _) ?_;intro g cap w7 hown7 hgrow7))
   rename_i gH
   have hb7:=gH.1.2
   have hown8:w7.ownsRow w.heap.size 9 1 (.slice (some ⟨g,0,none⟩) 7 cap) 7 (t.fields.map S):=by
    rw[Hfy.out Hlane.out,Hly.out]
    exact hown7
   have hf7:7=t.fields.length:=by rw[Hfy.out Hlane.out,Hly.out];rfl
   have Hb7:=yh hb7
   have Hown8:=yh hown8
   have Hf7:=yh hf7
   clear gH hb7 hown8 hf7 hown7 hgrow7 hb HS0 hS0 c5
   go_wp2_with fail
   refine(yjx t.fields _ _ _ _ _ Hown8.out Hf7.out).mono ?_
   rintro _ w8 ⟨rfl,hb8⟩
   have Hb8:=yh (yaa Hb7.out hb8)
   clear hb8
   go_wp2_with fail
   go_ret2
   exact⟨rfl,Hb8.out⟩
 · have Hlane:=yh hl
   go_enter Tryz.func96,Tryz.ntmps96
   go_wp2_with (with_reducible show wpList _ _ _ (⟨_,.load 81 _,_,_,_,_⟩::_) _ _;refine yac rfl 81 (.tmp 1) rfl w.heap.size 0 rfl C _ Hrng.out Tryz.underlying81 rfl (by rw[yam,HL.out]) ?_)
   refine(CH.out _).mono ?_
   rintro _ w1 ⟨rfl,hb1⟩
   have hg1:=yae hb1 none
   have hS0:=BX.out (show BodyIn w w1.drew w.heap.size C from⟨(Hrow0.out.kept hg1 (by simp)).kept (ybh _ none) (by simp),(ya0 hg1).drew⟩)
   have HS0:=yh hS0
   clear hb1 hg1 hS0
   go_wp2_with fail
   have hS0:=HS0.out
   go_region_held3 (fun W=>BodyIn w W w.heap.size C∧W.cell? ⟨w.heap.size,0,none⟩=some (.int .i64 t.frm)∧W.cell? ⟨w.heap.size,1,none⟩=some (.int .i64 t.nonce)∧W.cell? ⟨w.heap.size,2,none⟩=some (.int .i64 t.fee)∧W.cell? ⟨w.heap.size,3,none⟩=some (.int .i64 t.to)∧
    W.cell? ⟨w.heap.size,4,none⟩=some (.string t.data)∧W.cell? ⟨w.heap.size,5,none⟩=some (.bool t.lane)∧W.cell? ⟨w.heap.size,6,none⟩=some (.int .i64 t.round)∧W.cell? ⟨w.heap.size,7,none⟩=some (.int .i64 t.turn))
    (first|assumption|exact hS0|(exact BX.out (BodyIn.step (And.left (by assumption)) (by assumption)))|(exact BX.out (BodyIn.step (And.left (by assumption)) ((Below.refl _ _).alloc (Nat.le_refl _) _))))
    (first
     | (go_at_call 132;with_reducible refine Calls.mono (N1.out _) ?_;rintro e w' ⟨rfl,hb⟩)
     | (go_at_call 132;with_reducible refine Calls.mono (N2.out _) ?_;rintro e w' ⟨rfl,hb⟩)
     | (go_at_call 132;with_reducible refine Calls.mono (N3.out _) ?_;rintro e w' ⟨rfl,hb⟩)
     | (go_at_call 132;with_reducible refine Calls.mono (N4.out _) ?_;rintro e w' ⟨rfl,hb⟩))
   rename_i gH
   have hin:=gH.1
   have c5:=gH.2.2.2.2.2.2.1
   have hsz:w.heap.size≤w'.heap.size:=by have:=hin.2.size;have h2:=hin.1.lt;simp at this h2;omega
   have hlt:w.heap.size<w'.heap.size+1:=by have h2:=hin.1.lt;simpa using h2
   have hgne:w.heap.size≠w'.heap.size:=fun e=>by
    have h1:=hin.1
    unfold Row at h1
    rw[e,heap_alloc_new w' _]at h1
    simp at h1
   have hown:=yqd w' w.heap.size 5 [m1,m2,m3,m4,t.data.data.toList] rfl hsz (by decide)
   have Hin:=yh hin
   have Hown:=yh hown
   clear gH hin hown HS0 hS0 hb
   generalize hWe:w'.alloc (.cells #[S m1,S m2,S m3,S m4,.string t.data] 9)=W5 at *
   have Hown5:Hid (W5.ownsRow w.heap.size 9 1 (.slice (some ⟨w'.heap.size,0,none⟩) 5 5) 5 ([m1,m2,m3,m4,t.data.data.toList].map S)):=by rw[←hWe];exact Hown
   clear hWe Hown
   generalize w'.heap.size=g5 at *
   have hown8:W5.ownsRow w.heap.size 9 1 (.slice (some ⟨g5,0,none⟩) 5 5) 5 (t.fields.map S):=by
    rw[Hfl.out Hlane.out,Hly.out]
    exact Hown5.out
   have hf7:5=t.fields.length:=by rw[Hfl.out Hlane.out,Hly.out];rfl
   have Hown8:=yh hown8
   have Hf7:=yh hf7
   clear hown8 hf7 hgne
   go_wp2_with fail
   refine(yjx t.fields _ _ _ _ _ Hown8.out Hf7.out).mono ?_
   rintro _ w8 ⟨rfl,hb8⟩
   have Hb8:=yh (yaa Hin.out.2 hb8)
   clear hb8
   go_wp2_with fail
   go_ret2
   exact⟨rfl,Hb8.out⟩
theorem yp8 (t:Tx)(ht:t.Ok)(w:World):
 Calls Tryz.prog 96 #[t.v] w fun e w'=>e=.returned (.tuple #[S t.bodyE.1,.int .i64 t.bodyE.2])∧Below w.heap.size w w':=by
 by_cases he:t.err=0
 · exact ysz t ht w he
 · exact ys0 t ht w he
end
section
open Go.RowKit
namespace Tx
def sgn (t:Tx)(i:Nat)(x:List UInt8):Tx:=if i=0 then { t with tag:=x } else { t with bY:=x,lane:=true }
def signs (t:Tx):Nat→List (List UInt8)→Option Tx
 | _,[]=>some t
 | i,x::r=>if x.length=32 then signs (t.sgn i x) (i+1) r else Option.none
def readOf (d:List UInt8)(F:Option Tx):Option Tx:=match F with
 | Option.none=>Option.none
 | some t=>match t.bodyRead d with
   | Option.none=>Option.none
   | some u=>if u.err=0 then some u else Option.none
def read (s:List UInt8):Option Tx:=match listAll s with
 | Option.none=>Option.none
 | some l=>if l.length=2∨l.length=3 then readOf (l.getD 0 []) (signs Tx.none 0 (l.drop 1)) else Option.none
theorem ysm {t:Tx}{l:List (List UInt8)}{k:Nat}(h:k+1<l.length)(hx:l[k+1].length=32):signs t k (l.drop (k+1))=signs (t.sgn k l[k+1]) (k+1) (l.drop (k+1+1)):=by
 rw[List.drop_eq_getElem_cons h,signs,if_pos hx]
theorem ysl {t:Tx}{l:List (List UInt8)}{k:Nat}(h:k+1<l.length)(hx:l[k+1].length≠32):signs t k (l.drop (k+1))=Option.none:=by
 rw[List.drop_eq_getElem_cons h,signs,if_neg hx]
theorem sgn_ok {t:Tx}(h:t.Ok)(i:Nat){x:List UInt8}(hx:x.length=32):(t.sgn i x).Ok:=by
 unfold sgn
 split
 · exact⟨h.bY,hx,h.data,h.frm,h.nonce,h.fee,h.to,h.round,h.turn⟩
 · exact⟨hx,h.tag,h.data,h.frm,h.nonce,h.fee,h.to,h.round,h.turn⟩
theorem yob (t:Tx):t.cells.set 5 (.bool true)=Tx.cells { t with lane:=true }:=rfl
end Tx
theorem yl5 (w:World)(e:TypeId)(s:ByteArray):Below w.heap.size w (Lib.bytesWorld w e s):=
 ⟨rfl,rfl,rfl,by rw[Lib.bytesWorld_size];omega,fun k hk=>Lib.bytesWorld_at_old w e s k hk⟩
theorem conv32 (W:World)(x:List UInt8)(hx:x.length=32) :∃cp Wc,(convert 9 85 (S x)).run Tryz.prog W=.ok (.slice (some ⟨W.heap.size,0,none⟩) 32 cp) Wc∧W.grownBy Wc none∧Wc.rangeAt W.heap.size 0 (bRow x).toList:=by
 have h:=Lib.run_convert_string_bytes (P:=Tryz.prog) W 9 85 5 ⟨x.toArray⟩ Tryz.underlying9 Tryz.underlying85 Tryz.underlying5
 have hs:(⟨x.toArray⟩:ByteArray).size=32:=hx
 rw[hs]at h
 refine⟨_,_,h,yae (yl5 W 5 ⟨x.toArray⟩) none,?_⟩
 intro j v hv
 rw[ycr x hx]at hv
 unfold yRow at hv
 simp only[List.getElem?_map]at hv
 obtain⟨b,hb,rfl⟩:=Option.map_eq_some_iff.1 hv
 obtain⟨hj,hb'⟩:=List.getElem?_eq_some_iff.1 hb
 rw[Nat.zero_add,Lib.bytesWorld_cell W 5 ⟨x.toArray⟩ j (by rw[hs,←hx];exact hj)]
 simp[hb]
theorem yuv (W:World)(a:Option Addr)(cp:Nat):(Instr.arrayAt 62 (.slice a 32 cp)).run Tryz.prog W=.ok (.pointer a) W:=by
 simp[Instr.arrayAt,run_underlying Tryz.underlying62]
theorem yjw {base k:Nat}{W W':World}{T:TypeId}{xs:List Value}(h:Row W k T xs)(hb:Below base W W')(hk:k<base):Row W' k T xs:=(hb.block k hk).trans h
def ReadEnds (R:Option Tx)(e:Ending):Prop:=match R with
 | some u=>e=.returned (Tx.pairV (u,0))
 | none =>∃n:Int,(n != 0)=true∧e=.returned (Tx.pairV (Tx.none,n))
theorem slice1 (W:World)(b off m m1 c c1:Nat)(h:m=m1+1)(hc:c=c1+1)(h1:1≤m1)(h2:m≤c):
 (Instr.slice 56 (.slice (some ⟨b,off,none⟩) m c) (some (.int .i64 1)) none none).run Tryz.prog W=.ok (.slice (some ⟨b,off+1,none⟩) m1 c1) W:=by
 have hz:(sizeOf (Tryz.prog.elem 56)).run Tryz.prog W=.ok 1 W:=by kernel_rfl
 have e:=run_slice_l (P:=Tryz.prog) (w:=W) (t:=56) (a:=some ⟨b,off,none⟩) (len:=m) (cap:=c) (by kernel_rfl) (kl:=.i64) (l:=1) (by omega) (by omega)
 rw[hz]at e
 refine e.trans ?_
 subst h hc
 have hne :¬c1+1=1:=by omega
 simp[Result.andThen,sliced,Addr.add,hne]
 omega
theorem yp6 (s:ByteArray)(w:World)(hs:s.size≤9223372036854775807):
 Calls Tryz.prog 159 #[.string s] w fun e w'=>ReadEnds (Tx.read s.data.toList) e∧Below w.heap.size w w':=by
 have HZ72:=yh (Tx.yag Tx.yb1)
 have HZ1:=yh (Tx.yan Tx.yb1)
 have hzv:=yk2
 have hr0:=Row.new w 81 Tx.none.cells
 have hb0:=(Below.refl w.heap.size w).alloc (Nat.le_refl _) (.cells Tx.none.cells.toArray 81)
 have Hr0:=yh hr0
 have Hb0:=yh hb0
 clear hr0 hb0
 obtain⟨R,hR⟩ :∃R,R=Tx.read s.data.toList:=⟨_,rfl⟩
 rw[←hR]
 unfold Tx.read at hR
 cases hL:Tx.listAll s.data.toList with
 | none=>
   rw[hL]at hR
   have HR:=yh (show R=none from hR)
   have LN:=yh (fun W=>yqr s W hs hL)
   clear hL hR
   go_enter Tryz.func159,Tryz.ntmps159
   go_wp2_with fail
   refine yau ?_
   intro w1 hw1
   have hr1:Row w1 w.heap.size 81 Tx.none.cells:=by rw[hw1];exact Hr0.out
   have hb1:Below w.heap.size w w1:=by rw[hw1];exact Hb0.out
   clear hw1 Hr0 Hb0
   refine(LN.out w1).mono ?_
   rintro _ w2 ⟨n,hn,rfl,hb2⟩
   have Hr2:=yh (hr1.kept (yae hb2 none) (by simp))
   have Hb2:=yh (yaa hb1 hb2)
   have Hn:=yh hn
   clear hr1 hb1 hb2
   go_wp2_with (first
    | (with_reducible show wpList _ _ _ (⟨_,.build 81 _,_,_,_,_⟩::_) _ _;refine yak rfl 81 [] rfl (some 18) rfl _ rfl _ yco ?_)
    | (with_reducible show wpList _ _ _ (⟨_, .store 81 _ _, _, _, _, _⟩ :: _) _ _
       refine yab rfl 81 (.tmp 2) (.tmp 18) rfl w.heap.size 0 Tx.none.cells _ _ rfl rfl Hr2.out (by have:=HZ72.out;omega) (by rw[yam,HZ72.out]) HZ1.out ?_
       intro wZ hrZ hgZ
       rw[yad rfl]at hrZ
       have HrZ:=yh hrZ
       have HbZ:=yh (below_own Hb2.out hgZ (fun k hk=>by cases hk;omega))
       clear hrZ hgZ))
   refine bodyPost_ret (yaj rfl _ _ w.heap.size 81 _ _ rfl HrZ.out Tryz.underlying81 rfl (by rw[yam,List.size_toArray,HZ72.out]) _ rfl) rfl ⟨?_,HbZ.out⟩
   rw[HR.out]
   exact⟨_,Hn.out,rfl⟩
 | some l=>
   rw[hL]at hR
   simp only at hR
   have LS:=yh (fun W=>Cap.list_some s l W hs hL)
   have hlt:=Tx.ybv hL
   by_cases hw:l.length=2∨l.length=3
   · rw[if_pos hw]at hR
     have HR:=yh hR
     obtain⟨m,hm⟩ :∃m,m=l.length:=⟨_,rfl⟩
     obtain⟨m1,hm1⟩ :∃m1,m=m1+1:=⟨m-1,by omega⟩
     rw[←hm]at hw
     have hm1b:1≤m1:=by omega
     have hm1c:m1≤2:=by omega
     have hw2:(((m:Int) != 2)=false∧((m:Int) != 3)=true)∨(((m:Int) != 2)=true∧((m:Int) != 3)=false):=by
      rcases hw with h|h
      · exact .inl ⟨by simp;omega,by simp;omega⟩
      · exact .inr ⟨by simp;omega,by simp;omega⟩
     have HM:=yh hm
     have HM1:=yh hm1
     have Hlt:=yh hlt
     have LS2:Hid (∀W,Calls Tryz.prog 179 #[.string s] W fun e w' =>∃b off c,e=.returned (.tuple #[.slice (some ⟨b,off,none⟩) m c,.int .i64 0])∧m≤c∧b<w'.heap.size∧(∀i (h:i<l.length),w'.cell? ⟨b,off+i,none⟩=some (S l[i]))∧Below W.heap.size W w'):=fun W=>(LS.out W).mono fun e w' ⟨v,h1,⟨A,c,h2,hcc,h4⟩,h3⟩=>by
      obtain⟨b,off,hA,hb,hc⟩:=h4 (by intro e;rw[e]at hm;simp at hm;omega)
      exact⟨b,off,c,by rw[h1,h2,hm,hA],by omega,hb,hc,h3⟩
     clear hL hR hw hlt LS
     have hm0:(0:Int)<(m:Int):=by omega
     have hl0:0<l.length:=by omega
     obtain⟨d0,hd0⟩ :∃d0,d0=l[0]:=⟨_,rfl⟩
     have hd0l:d0.length≤65536:=by rw[hd0];exact Hlt.out _ (List.getElem_mem _)
     obtain⟨F,hF⟩ :∃F,F=Tx.signs Tx.none 0 (l.drop 1):=⟨_,rfl⟩
     have HR2:Hid (R=Tx.readOf d0 F):=by
      have e:l.getD 0 []=d0:=by rw[hd0];simp[List.getD,hl0]
      have:=HR.out
      rw[e,←hF]at this
      exact this
     have HF:=yh hF
     have HD:=yh hd0
     clear hF hd0 HR hm hm1
     rcases hw2 with⟨h2,h3⟩|⟨h2,h3⟩
     all_goals
      go_enter Tryz.func159,Tryz.ntmps159
      go_wp2_with fail
      refine yau ?_
      intro w1 hw1
      have hr1:Row w1 w.heap.size 81 Tx.none.cells:=by rw[hw1];exact Hr0.out
      have hb1:Below w.heap.size w w1:=by rw[hw1];exact Hb0.out
      clear hw1 Hr0 Hb0
      refine(LS2.out w1).mono ?_
      rintro _ w2 ⟨b,off,c,rfl,hmc,hbl,hc,hb2⟩
      have hrz2:=hr1.kept (yae hb2 none) (by simp)
      have hb2':=yaa hb1 hb2
      have hgz:w.heap.size≠w2.heap.size:=by have:=hrz2.lt;omega
      have hsl:=fun W:World=>slice1 W b off m m1 c (c-1) HM1.out (by have:=HM1.out;omega) hm1b hmc
      have hr3:=Row.new w2 81 Tx.none.cells
      have hrz3:=hrz2.kept (yaw w2 (.cells Tx.none.cells.toArray 81) none) (by simp)
      have hb3:=below_own hb2' (yaw w2 (.cells Tx.none.cells.toArray 81) none) (fun k hk=>by cases hk)
      have hc3:=fun i (h:i<l.length)=>(yaw w2 (.cells Tx.none.cells.toArray 81) none).cell (hc i h) (by simp)
      have hs3:w2.heap.size≤(w2.alloc (.cells Tx.none.cells.toArray 81)).heap.size:=by simp
      have hbg2:b≠w2.heap.size:=by omega
      have hwl:w.heap.size≤w2.heap.size:=hb2'.size
      have hzlt:=hrz2.lt
      have Hr3:=yh hr3
      have Hrz3:=yh hrz3
      have Hb3:=yh hb3
      have Hc3:=yh hc3
      have Hs3:=yh hs3
      clear hr1 hb1 hb2 hrz2 hb2' hr3 hrz3 hb3 hc3 hs3 hc hbl hmc
      go_wp2_with fail
      obtain⟨g,hg⟩ :∃g,g=w2.heap.size:=⟨_,rfl⟩
      rw[←hg]at Hr3 Hs3 hbg2 hgz hwl hzlt
      simp only[←hg]
      clear hg
      go_loopw [32] (fun i wr =>∃(k:Nat) (u:Tx),k≤m1∧i=.int .i64 k∧u.Ok∧F=Tx.signs u k (l.drop (k+1))∧Row wr g 81 u.cells∧Row wr w.heap.size 81 Tx.none.cells∧(∀i (h:i<l.length),wr.cell? ⟨b,off+i,none⟩=some (S l[i]))∧g≤wr.heap.size∧Below w.heap.size w wr) (fun i _=>m1-(intOf i).toNat)
      case atStart=>exact⟨0,Tx.none,Nat.zero_le _,rfl,Tx.yb1,HF.out,Hr3.out,Hrz3.out,Hc3.out,Hs3.out,Hb3.out⟩
      case round=>
       obtain⟨k,u,hk,rfl,hu,hFk,hru,hrz,hck,hsz,hbk⟩:=hrel
       have HFk:=yh hFk
       have Hru:=yh hru
       have Hrz:=yh hrz
       have Hck:=yh hck
       have Hbk:=yh hbk
       have Hu:=yh hu
       clear hFk hru hrz hck hbk hu Hr3 Hrz3 Hb3 Hc3 Hs3 HF
       by_cases hkm:k<m1
       · have hki:(k:Int)<(m1:Int):=by omega
         have hkl:k+1<l.length:=by rw[←HM.out,HM1.out];omega
         have ctx0:=Hck.out (k+1) hkl
         have ctx:wr.cell? ⟨b,off+1+k,none⟩=some (S l[k+1]):=by rw[show off+1+k=off+(k+1) by omega];exact ctx0
         obtain⟨x,hx⟩ :∃x,x=l[k+1]:=⟨_,rfl⟩
         rw[←hx]at ctx
         clear ctx0
         by_cases hx32:x.length=32
         · have hgo:=HFk.out.trans (Tx.ysm hkl (by rw[←hx];exact hx32))
           rw[←hx]at hgo
           have Hgo:=yh hgo
           have HX:=yh hx32
           have HB32:=yh (Tx.yap x hx32)
           have hso:=Tx.sgn_ok Hu.out k hx32
           have Hso:=yh hso
           have hxl:((x.length:Int) != 32)=false:=by simp;omega
           obtain⟨cp,Wc,hcv,hgc,hrc⟩:=conv32 wr x hx32
           have hat:=yuv Wc (some ⟨wr.heap.size,0,none⟩) cp
           have Hrc:=yh hrc
           have Hruc:=yh (Hru.out.kept hgc (by simp))
           have Hrzc:=yh (Hrz.out.kept hgc (by simp))
           have Hbkc:=yh (below_own Hbk.out hgc (fun k hk=>by cases hk))
           have Hckc:=yh (fun i (h:i<l.length)=>hgc.cell (Hck.out i h) (by simp))
           have Hszc:=yh (Nat.le_trans hsz hgc.size)
           clear hrc hgc
           clear hx32 hx hgo hso
           by_cases hk0:k=0
           · subst hk0
             go_wp2_with (first
              | (with_reducible show wpList _ _ _ (⟨_,.load 62 _,_,_,_,_⟩::_) _ _;refine yac rfl 62 (.tmp 45) rfl wr.heap.size 0 rfl (bRow x).toList _ Hrc.out Tryz.underlying62 rfl (by rw[yas,HB32.out]) ?_)
              | (with_reducible show wpList _ _ _ (⟨_, .store 62 _ _, _, _, _, _⟩ :: _) _ _
                 refine yab rfl 62 (.tmp 47) (.tmp 46) rfl g 40 (bRow x).toList _ _ rfl rfl Hruc.out (by rw[HB32.out,Tx.yag Hu.out];decide) (by rw[yas,HB32.out]) (ybw x HX.out) ?_
                 intro w5 hr5 hg5
                 rw[Tx.ynh Hu.out x HX.out]at hr5
                 have Hr5:=yh hr5
                 have Hrz5:=yh (Hrzc.out.kept hg5 (by simpa using hgz))
                 have Hb5:=yh (below_own Hbkc.out hg5 (fun k hk=>by cases hk;omega))
                 have Hc5:=yh (fun i (h:i<l.length)=>hg5.cell (Hckc.out i h) (by simpa using hbg2))
                 have Hs5:=yh (Nat.le_trans Hszc.out hg5.size)
                 clear hr5 hg5))
             refine⟨⟨1,u.sgn 0 x,hkm,by go_num,Hso.out,Hgo.out,Hr5.out,Hrz5.out,Hc5.out,Hs5.out,Hb5.out⟩,by simp[intOf];omega⟩
           · have hkz:((k:Int) == 0)=false:=by simp;omega
             have hsg:u.sgn k x = { u with bY:=x,lane:=true }:=by unfold Tx.sgn;rw[if_neg hk0]
             have Hsg:=yh hsg
             clear hsg
             go_wp2_with (first
              | (with_reducible show wpList _ _ _ (⟨_,.load 62 _,_,_,_,_⟩::_) _ _;refine yac rfl 62 (.tmp 50) rfl wr.heap.size 0 rfl (bRow x).toList _ Hrc.out Tryz.underlying62 rfl (by rw[yas,HB32.out]) ?_)
              | (with_reducible show wpList _ _ _ (⟨_, .store 62 _ _, _, _, _, _⟩ :: _) _ _
                 refine yab rfl 62 (.tmp 52) (.tmp 51) rfl g 8 (bRow x).toList _ _ rfl rfl Hruc.out (by rw[HB32.out,Tx.yag Hu.out];decide) (by rw[yas,HB32.out]) (ybw x HX.out) ?_
                 intro w5 hr5 hg5
                 rw[Tx.yoe Hu.out x HX.out]at hr5
                 have c5:=hr5.cell 5 (by simp[Tx.cells,Tx.head])
                 have f5:=hr5.free 5
                 have Hr5:=yh hr5
                 have Hrz5:=yh (Hrzc.out.kept hg5 (by simpa using hgz))
                 have Hb5:=yh (below_own Hbkc.out hg5 (fun k hk=>by cases hk;omega))
                 have Hc5:=yh (fun i (h:i<l.length)=>hg5.cell (Hckc.out i h) (by simpa using hbg2))
                 have Hs5:=yh (Nat.le_trans Hszc.out hg5.size)
                 clear hr5 hg5))
             have hr6:=Hr5.out.set 5 (.bool true) (by simp[Tx.cells,Tx.head])
             rw[Tx.yob,←Hsg.out]at hr6
             have hg6:=yaq w5 g 5 (.bool true)
             refine⟨⟨k+1,u.sgn k x,hkm,by go_num,Hso.out,Hgo.out,hr6,Hrz5.out.kept hg6 (by simpa using hgz),fun i h=>hg6.cell (Hc5.out i h) (by simpa using hbg2),Nat.le_trans Hs5.out hg6.size,below_own Hb5.out hg6 (fun k hk=>by cases hk;omega)⟩,by simp[intOf];omega⟩
         · have hFn:=HFk.out.trans (Tx.ysl hkl (by rw[←hx];exact hx32))
           have hRn:R=none:=by rw[HR2.out,hFn];rfl
           have HRn:=yh hRn
           have hxl:((x.length:Int) != 32)=true:=by simp;omega
           clear hFn hRn hx hx32
           go_wp2_with (first
            | (with_reducible show wpList _ _ _ (⟨_,.build 81 _,_,_,_,_⟩::_) _ _;refine yak rfl 81 [] rfl (some 40) rfl _ rfl _ yco ?_)
            | (with_reducible show wpList _ _ _ (⟨_, .store 81 _ _, _, _, _, _⟩ :: _) _ _
               refine yab rfl 81 (.tmp 2) (.tmp 40) rfl w.heap.size 0 Tx.none.cells _ _ rfl rfl Hrz.out (by have:=HZ72.out;omega) (by rw[yam,HZ72.out]) HZ1.out ?_
               intro wZ hrZ hgZ
               rw[yad rfl]at hrZ
               have HrZ:=yh hrZ
               have HbZ:=yh (below_own Hbk.out hgZ (fun k hk=>by cases hk;omega))
               clear hrZ hgZ))
           refine bodyPost_ret (yaj rfl _ _ w.heap.size 81 _ _ rfl HrZ.out Tryz.underlying81 rfl (by rw[yam,List.size_toArray,HZ72.out]) _ rfl) rfl ⟨?_,HbZ.out⟩
           rw[HRn.out]
           exact⟨_,(show ((6:Int) != 0)=true from rfl),rfl⟩
       · have hki:(m1:Int)≤(k:Int):=by omega
         have hFe:F=some u:=by
          rw[HFk.out,List.drop_of_length_le (by rw[←HM.out,HM1.out];omega)]
          rfl
         have hRe:R=Tx.readOf d0 (some u):=by rw[HR2.out,hFe]
         have c0:=Hck.out 0 hl0
         rw[←HD.out,Nat.add_zero]at c0
         have RB:=yj1 u Hu.out ⟨d0.toArray⟩ wr g g (by show d0.length≤_;omega) Hru.out (Nat.le_refl _)
         have hdd:(⟨d0.toArray⟩:ByteArray).data.toList=d0:=rfl
         rw[hdd]at RB
         cases hB:u.bodyRead d0 with
         | none=>
           have hRn:R=none:=by rw[hRe];unfold Tx.readOf;simp only;rw[hB]
           rw[hB]at RB
           have RB':=yh RB
           have HRn:=yh hRn
           clear hB hRn hRe hFe RB hdd
           go_wp2_with fail
           refine RB'.out.mono ?_
           rintro _ w6 ⟨⟨n,hn,rfl⟩,hb6⟩
           have Hn:=yh hn
           have Hrz6:=yh (yjw Hrz.out hb6 hzlt)
           have Hb6:=yh (Hbk.out.trans (hb6.mono hwl))
           clear hb6
           go_wp2_with (first
            | (with_reducible show wpList _ _ _ (⟨_,.build 81 _,_,_,_,_⟩::_) _ _;refine yak rfl 81 [] rfl (some 61) rfl _ rfl _ yco ?_)
            | (with_reducible show wpList _ _ _ (⟨_, .store 81 _ _, _, _, _, _⟩ :: _) _ _
               refine yab rfl 81 (.tmp 2) (.tmp 61) rfl w.heap.size 0 Tx.none.cells _ _ rfl rfl Hrz6.out (by have:=HZ72.out;omega) (by rw[yam,HZ72.out]) HZ1.out ?_
               intro wZ hrZ hgZ
               rw[yad rfl]at hrZ
               have HrZ:=yh hrZ
               have HbZ:=yh (below_own Hb6.out hgZ (fun k hk=>by cases hk;omega))
               clear hrZ hgZ))
           refine bodyPost_ret (yaj rfl _ _ w.heap.size 81 _ _ rfl HrZ.out Tryz.underlying81 rfl (by rw[yam,List.size_toArray,HZ72.out]) _ rfl) rfl ⟨?_,HbZ.out⟩
           rw[HRn.out]
           exact⟨_,Hn.out,rfl⟩
         | some v=>
           have hRv:R=if v.err=0 then some v else none:=by rw[hRe];unfold Tx.readOf;simp only;rw[hB]
           rw[hB]at RB
           have RB':=yh RB
           have HRv:=yh hRv
           clear hB hRv hRe hFe RB hdd
           go_wp2_with fail
           refine RB'.out.mono ?_
           rintro _ w6 ⟨⟨rfl,hvo,hv6⟩,hb6⟩
           have Hrz6:=yh (yjw Hrz.out hb6 hzlt)
           have Hb6:=yh (Hbk.out.trans (hb6.mono hwl))
           have HV72:=yh (Tx.yag hvo)
           have HV1:=yh (Tx.yan hvo)
           have CK:Hid (∀W,Calls Tryz.prog 181 #[.agg v.cells.toArray] W fun e w'=>e=.returned (.int .i64 v.err)∧Below W.heap.size W w'):=fun W=>yfg v hvo W
           have Hv6:=yh hv6
           have hvv:Tx.pairV (v,0)=.tuple #[.agg v.cells.toArray,.int .i64 0]:=rfl
           have Hvv:=yh hvv
           obtain⟨C,hC⟩ :∃C,C=v.cells:=⟨_,rfl⟩
           rw[←hC]at CK Hv6 HV72 HV1 Hvv
           have HC:=yh hC
           clear hb6 hvo hv6 hC hvv
           by_cases hve:v.err=0
           · have hRs:R=some v:=by rw[HRv.out,if_pos hve]
             have HRs:=yh hRs
             rw[hve]at CK
             clear hRs hve
             go_wp2_with (with_reducible show wpList _ _ _ (⟨_,.load 81 _,_,_,_,_⟩::_) _ _;refine yac rfl 81 (.tmp 6) rfl g 0 rfl C _ (yah Hv6.out) Tryz.underlying81 rfl (by rw[yam,HV72.out]) ?_)
             refine(CK.out w6).mono ?_
             rintro _ w7 ⟨rfl,hb7⟩
             have hg7:=yae hb7 none
             have Hv7:=yh (Hv6.out.kept hg7 (by simp))
             have Hrz7:=yh (Hrz6.out.kept hg7 (by simp))
             have Hb7:=yh (below_own Hb6.out hg7 (fun k hk=>by cases hk))
             clear hb7 hg7
             go_wp2_with (first
              | (with_reducible show wpList _ _ _ (⟨_,.load 81 _,_,_,_,_⟩::_) _ _;refine yac rfl 81 (.tmp 6) rfl g 0 rfl C _ (yah Hv7.out) Tryz.underlying81 rfl (by rw[yam,HV72.out]) ?_)
              | (with_reducible show wpList _ _ _ (⟨_, .store 81 _ _, _, _, _, _⟩ :: _) _ _
                 refine yab rfl 81 (.tmp 2) (.tmp 69) rfl w.heap.size 0 C _ _ rfl rfl Hrz7.out (by have:=HZ72.out;have:=HV72.out;omega) (by rw[yam,HV72.out]) HV1.out ?_
                 intro w8 hr8 hg8
                 rw[yad (HV72.out.trans HZ72.out.symm)]at hr8
                 have Hr8:=yh hr8
                 have Hb8:=yh (below_own Hb7.out hg8 (fun k hk=>by cases hk;omega))
                 clear hr8 hg8))
             refine bodyPost_ret (yaj rfl _ _ w.heap.size 81 _ _ rfl Hr8.out Tryz.underlying81 rfl (by rw[yam,List.size_toArray,HV72.out]) _ rfl) rfl ⟨?_,Hb8.out⟩
             rw[HRs.out]
             show _=_
             rw[Hvv.out]
             rfl
           · have hRs:R=none:=by rw[HRv.out,if_neg hve]
             have HRs:=yh hRs
             have hvn:(v.err != 0)=true:=by simpa using hve
             have Hvn:=yh hvn
             obtain⟨ve,hve2⟩ :∃ve,ve=v.err:=⟨_,rfl⟩
             rw[←hve2]at CK hvn Hvn
             clear hRs hve hve2
             go_wp2_with (with_reducible show wpList _ _ _ (⟨_,.load 81 _,_,_,_,_⟩::_) _ _;refine yac rfl 81 (.tmp 6) rfl g 0 rfl C _ (yah Hv6.out) Tryz.underlying81 rfl (by rw[yam,HV72.out]) ?_)
             refine(CK.out w6).mono ?_
             rintro _ w7 ⟨rfl,hb7⟩
             have hg7:=yae hb7 none
             have Hrz7:=yh (Hrz6.out.kept hg7 (by simp))
             have Hb7:=yh (below_own Hb6.out hg7 (fun k hk=>by cases hk))
             clear hb7 hg7
             go_wp2_with (first
              | (with_reducible show wpList _ _ _ (⟨_,.build 81 _,_,_,_,_⟩::_) _ _;refine yak rfl 81 [] rfl (some 67) rfl _ rfl _ yco ?_)
              | (with_reducible show wpList _ _ _ (⟨_, .store 81 _ _, _, _, _, _⟩ :: _) _ _
                 refine yab rfl 81 (.tmp 2) (.tmp 67) rfl w.heap.size 0 Tx.none.cells _ _ rfl rfl Hrz7.out (by have:=HZ72.out;omega) (by rw[yam,HZ72.out]) HZ1.out ?_
                 intro wZ hrZ hgZ
                 rw[yad rfl]at hrZ
                 have HrZ:=yh hrZ
                 have HbZ:=yh (below_own Hb7.out hgZ (fun k hk=>by cases hk;omega))
                 clear hrZ hgZ))
             refine bodyPost_ret (yaj rfl _ _ w.heap.size 81 _ _ rfl HrZ.out Tryz.underlying81 rfl (by rw[yam,List.size_toArray,HZ72.out]) _ rfl) rfl ⟨?_,HbZ.out⟩
             rw[HRs.out]
             exact⟨_,Hvn.out,rfl⟩
   · rw[if_neg hw]at hR
     have HR:=yh hR
     obtain⟨m,hm⟩ :∃m,m=l.length:=⟨_,rfl⟩
     rw[←hm]at hw
     have h2:((m:Int) != 2)=true:=by simp;omega
     have h3:((m:Int) != 3)=true:=by simp;omega
     have LS2:Hid (∀W,Calls Tryz.prog 179 #[.string s] W fun e w' =>∃A c,e=.returned (.tuple #[.slice A m c,.int .i64 0])∧Below W.heap.size W w'):=fun W=>(LS.out W).mono fun e w' ⟨v,h1,⟨A,c,h2,_,_⟩,h3⟩=>⟨A,c,by rw[h1,h2,hm],h3⟩
     clear hL hR hw hm LS hlt
     go_enter Tryz.func159,Tryz.ntmps159
     go_wp2_with fail
     refine yau ?_
     intro w1 hw1
     have hr1:Row w1 w.heap.size 81 Tx.none.cells:=by rw[hw1];exact Hr0.out
     have hb1:Below w.heap.size w w1:=by rw[hw1];exact Hb0.out
     clear hw1 Hr0 Hb0
     refine(LS2.out w1).mono ?_
     rintro _ w2 ⟨A,c,rfl,hb2⟩
     have Hr2:=yh (hr1.kept (yae hb2 none) (by simp))
     have Hb2:=yh (yaa hb1 hb2)
     clear hr1 hb1 hb2
     go_wp2_with (first
      | (with_reducible show wpList _ _ _ (⟨_,.build 81 _,_,_,_,_⟩::_) _ _;refine yak rfl 81 [] rfl (some 28) rfl _ rfl _ yco ?_)
      | (with_reducible show wpList _ _ _ (⟨_, .store 81 _ _, _, _, _, _⟩ :: _) _ _
         refine yab rfl 81 (.tmp 2) (.tmp 28) rfl w.heap.size 0 Tx.none.cells _ _ rfl rfl Hr2.out (by have:=HZ72.out;omega) (by rw[yam,HZ72.out]) HZ1.out ?_
         intro wZ hrZ hgZ
         rw[yad rfl]at hrZ
         have HrZ:=yh hrZ
         have HbZ:=yh (below_own Hb2.out hgZ (fun k hk=>by cases hk;omega))
         clear hrZ hgZ))
     refine bodyPost_ret (yaj rfl _ _ w.heap.size 81 _ _ rfl HrZ.out Tryz.underlying81 rfl (by rw[yam,List.size_toArray,HZ72.out]) _ rfl) rfl ⟨?_,HbZ.out⟩
     rw[HR.out]
     exact⟨_,(show ((6:Int) != 0)=true from rfl),rfl⟩
end
section
open Go.RowKit
theorem ycb (t:Tx)(ht:t.Ok)(w:World)(hRS:RefSum):
 Calls Tryz.prog 69 #[t.v] w fun e w'=>e=.returned (.int .i64 t.signedE)∧Below w.heap.size w w':=by
 have hrow0:=Row.new w 81 t.cells
 have hrng:=ya3 hrow0
 have hlen:=Tx.yag ht
 have BD:Hid (∀W,Calls Tryz.prog 96 #[.agg t.cells.toArray] W fun e w'=>e=.returned (.tuple #[S t.bodyE.1,.int .i64 t.bodyE.2])∧Below W.heap.size W w'):=fun W=>yp8 t ht W
 have hbl:=t.body_len
 have CK:Hid (∀W,Calls Tryz.prog 97 #[.int .i64 t.frm,.int .i64 1,S t.bodyE.1,.agg (bRow t.tag)] W fun e w'=>e=.returned (.int .i64 (Seal.check2 t.frm 1 t.bodyE.1 t.tag))∧Below W.heap.size W w'):=fun W=>yjz hRS t.frm 1 ⟨t.bodyE.1.toArray⟩ t.tag W ht.tag (by show t.bodyE.1.length≤_;omega)
 have BX:Hid (∀(W:World) (g:Nat) (T:TypeId),Row W g T t.cells→W.cell? ⟨g,0,none⟩=some (.int .i64 t.frm)∧W.rangeAt g 40 (bRow t.tag).toList):=fun W g T h=>⟨(ybp ht h).1,(yca ht h).2⟩
 have HB32:=yh (Tx.yap _ ht.tag)
 have hn1:t.bodyE.2=0→t.signedE=Seal.check2 t.frm 1 t.bodyE.1 t.tag:=fun h=>by unfold Tx.signedE;rw[if_pos h]
 have hn2:t.bodyE.2≠0→t.signedE=t.bodyE.2:=fun h=>by unfold Tx.signedE;rw[if_neg h]
 show Calls _ _ #[.agg t.cells.toArray] _ _
 generalize t.cells=C at *
 generalize t.signedE=NE at *
 generalize t.bodyE=BE at *
 obtain⟨bs,be⟩:=BE
 simp only at hn1 hn2 BD CK
 generalize Seal.check2 t.frm 1 bs t.tag=R at *
 have HL:=yh hlen
 have Hrng:=yh hrng
 have Hrow0:=yh hrow0
 have Hn1:=yh hn1
 have Hn2:=yh hn2
 clear hlen hrng hn1 hn2 hbl ht hrow0
 by_cases he:be=0
 · subst he
   go_enter Tryz.func69,Tryz.ntmps69
   go_wp2_with (with_reducible show wpList _ _ _ (⟨_,.load 81 _,_,_,_,_⟩::_) _ _;refine yac rfl 81 (.tmp 1) rfl w.heap.size 0 rfl C _ Hrng.out Tryz.underlying81 rfl (by rw[yam,HL.out]) ?_)
   refine(BD.out _).mono ?_
   rintro _ w1 ⟨rfl,hb1⟩
   have hg1:=yae hb1 none
   have hr1:=Hrow0.out.kept hg1 (by simp)
   obtain⟨c0,rt⟩:=BX.out _ _ _ hr1
   have Hrt:=yh rt
   have Hbt1:=yh (ya0 hg1)
   clear hb1 hg1 hr1 rt
   go_wp2_with (with_reducible show wpList _ _ _ (⟨_,.load 62 _,_,_,_,_⟩::_) _ _;refine yac rfl 62 (.tmp 16) rfl w.heap.size 40 rfl (bRow t.tag).toList _ Hrt.out Tryz.underlying62 rfl (by rw[yas,HB32.out]) ?_)
   refine(CK.out w1).mono ?_
   rintro _ w2 ⟨rfl,hb2⟩
   have Hb2:=yh (yaa Hbt1.out hb2)
   clear hb2
   go_wp2_with fail
   go_ret
   exact⟨by have e:=Hn1.out (by first|trivial|rfl);subst e;rfl,Hb2.out⟩
 · have hne:(be != 0)=true:=by simpa using he
   have Hne:=yh he
   clear he
   go_enter Tryz.func69,Tryz.ntmps69
   go_wp2_with (with_reducible show wpList _ _ _ (⟨_,.load 81 _,_,_,_,_⟩::_) _ _;refine yac rfl 81 (.tmp 1) rfl w.heap.size 0 rfl C _ Hrng.out Tryz.underlying81 rfl (by rw[yam,HL.out]) ?_)
   refine(BD.out _).mono ?_
   rintro _ w1 ⟨rfl,hb1⟩
   have Hbt1:=yh (ya0 (yae hb1 none))
   clear hb1
   go_wp2_with fail
   go_ret
   exact⟨by have e:=Hn2.out Hne.out;subst e;rfl,Hbt1.out⟩
end
end Go.Proofs.YtalfnadejpmjnaaGreatDoor
