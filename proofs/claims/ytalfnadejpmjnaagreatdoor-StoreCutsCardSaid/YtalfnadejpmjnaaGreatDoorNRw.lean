/- A part. -/
import Derived.Test.YtalfnadejpmjnaaGreatDoorNSlD
set_option linter.unusedVariables false
set_option linter.unusedSimpArgs false
set_option maxRecDepth 100000
set_option maxHeartbeats 25600000
namespace Go.Proofs.YtalfnadejpmjnaaGreatDoor
section
open Go.RowKit
theorem yna:(Tryz.prog.underlying 81).map (fun d=>match d with | .struct fields=>fields.toList.mapM (fun f=>(Tryz.prog.info? f.type).map fun i=>(f.offset,i.size))|_=>Option.none)=some (some [(0,1),(1,1),(2,1),(3,1),(4,1),(5,1),(6,1),(7,1),(8,32),(40,32)]):=by kernel_rfl
theorem yse:(Tryz.prog.info? 81).map (·.zero)=some (some (.agg Tx.none.cells.toArray)):=by kernel_rfl
theorem ypc (parts:List (Nat×Value)):Tryz.prog.built 81 parts=Instr.fill (#[(0,1),(1,1),(2,1),(3,1),(4,1),(5,1),(6,1),(7,1),(8,32),(40,32)][·]?) Tx.none.cells.toArray parts:=by
 obtain⟨i0,hi,hz⟩:=Option.map_eq_some_iff.1 yse
 have hp:=yna
 rw[Tryz.underlying81]at hp
 simp only[Option.map_some,Option.some.injEq]at hp
 unfold Program.built
 rw[hi,Tryz.underlying81]
 simp only[hz,hp]
 rfl
theorem ytw (a b c d:Int)(s:ByteArray)(R:List UInt8)(hR:R.length=32):
 Tryz.prog.built 81 [(0,.int .i64 a),(1,.int .i64 b),(2,.int .i64 c),(3,.int .i64 d),(4,.string s),(9,.agg (bRow R).toList.toArray)]=some (Tx.cells ⟨a,b,c,d,s,false,0,0,Tx.zero,R⟩).toArray:=by
 have hz:=Tx.yap Tx.zero rfl
 have hr:=Tx.yap R hR
 have hL:=Tx.yag Tx.yb1
 rw[ypc]
 rw[ya4 _ _ 0 _ [.int .i64 a] _ 0 1 rfl rfl rfl (by rw[hL];omega)]
 rw[ya4 _ _ 1 _ [.int .i64 b] _ 1 1 rfl rfl rfl (by simp only[List.length_append,List.length_take,List.length_drop,List.length_cons,List.length_nil,hL];omega)]
 rw[ya4 _ _ 2 _ [.int .i64 c] _ 2 1 rfl rfl rfl (by simp only[List.length_append,List.length_take,List.length_drop,List.length_cons,List.length_nil,hL];omega)]
 rw[ya4 _ _ 3 _ [.int .i64 d] _ 3 1 rfl rfl rfl (by simp only[List.length_append,List.length_take,List.length_drop,List.length_cons,List.length_nil,hL];omega)]
 rw[ya4 _ _ 4 _ [.string s] _ 4 1 rfl rfl rfl (by simp only[List.length_append,List.length_take,List.length_drop,List.length_cons,List.length_nil,hL];omega)]
 rw[ya4 _ _ 9 _ (bRow R).toList _ 40 32 rfl (by simp[Value.cells]) hr (by simp only[List.length_append,List.length_take,List.length_drop,List.length_cons,List.length_nil,hL];omega)]
 rw[ydt]
 unfold Tx.cells Tx.none Tx.head
 simp only[List.cons_append,List.nil_append,List.take_succ_cons,List.take_zero,List.drop_succ_cons,List.drop_zero]
 rw[List.take_append_of_le_length (by rw[hz];omega),List.take_of_length_le (by rw[hz];omega),List.drop_of_length_le (by rw[List.length_append,hz];omega),List.append_nil]
end
section
open Go.RowKit
theorem yra:(Tryz.prog.info? 3).map (fun i=>(i.zero,i.size,i.bytes))=some (some (.int .i64 0),1,8):=by kernel_rfl
theorem int5 :∃i0:TypeInfo,Tryz.prog.info? 3=some i0∧i0.zero=some (.int .i64 0)∧i0.size=1∧i0.bytes=8:=by
 obtain⟨i0,hi,h2⟩:=Option.map_eq_some_iff.1 yra
 simp only[Prod.mk.injEq]at h2
 exact⟨i0,hi,h2.1,h2.2.1,h2.2.2⟩
theorem yiy (w:World)(t:TypeId)(x:Int) :∀j u,[Value.int .i64 x][j]? = some u→(w.alloc (.cells #[.int .i64 x] t)).cell? ((⟨w.heap.size,0,none⟩:Addr).add j)=some u:=by
 intro j u hj
 match j,hj with
 | 0,hj=>simp at hj;subst hj;simp[Addr.add]
theorem yfy (x:Int) :∀u∈[Value.int .i64 x],u.oneCell'=true:=by
 intro u hu
 simp at hu
 subst hu
 rfl
namespace Tx
theorem yit {s:List UInt8}(h:listAll s=Option.none):read s=Option.none:=by unfold read;rw[h]
theorem ysx {s:List UInt8}{L:List (List UInt8)}(h:listAll s=some L)(hl :¬(L.length=2∨L.length=3)):read s=Option.none:=by
 unfold read;rw[h];simp only;rw[if_neg hl]
theorem yng :∀(l:List (List UInt8)) (t:Tx) (k j:Nat) (hj:j<l.length),l[j].length≠32→signs t k l=Option.none:=by
 intro l
 induction l with
 | nil=>intro t k j hj;simp at hj
 | cons x r ih=>
   intro t k j hj hx
   rw[signs]
   by_cases h:x.length=32
   · rw[if_pos h]
     match j with
     | 0=>exact absurd h hx
     | j+1=>exact ih _ _ j (by simpa using hj) (by simpa using hx)
   · rw[if_neg h]
theorem ymn {s:List UInt8}{L:List (List UInt8)}(h:listAll s=some L){j:Nat}(h1:1≤j)(hj:j<L.length)(hx:L[j].length≠32):read s=Option.none:=by
 unfold read
 rw[h]
 simp only
 split
 · rw[yng (L.drop 1) Tx.none 0 (j-1) (by rw[List.length_drop];omega) (by rw[List.getElem_drop];have e:1+(j-1)=j:=(by omega);simp only[e];exact hx)]
   rfl
 · rfl
theorem ysw {s:List UInt8}{a b:List UInt8}(h:listAll s=some [a,b])(hb:b.length=32):read s=readOf a (some { Tx.none with tag:=b }):=by
 unfold read
 rw[h]
 simp only[List.length_cons,List.length_nil,true_or,if_true,List.getD_cons_zero,List.drop_succ_cons,List.drop_zero,Nat.zero_add,Nat.reduceAdd]
 rw[signs,if_pos hb,signs]
 rfl
theorem yn1 {s:List UInt8}{a b c:List UInt8}(h:listAll s=some [a,b,c])(hb:b.length=32)(hc:c.length=32):read s=readOf a (some { Tx.none with tag:=b,bY:=c,lane:=true }):=by
 unfold read
 rw[h]
 simp only[List.length_cons,List.length_nil,or_true,if_true,List.getD_cons_zero,List.drop_succ_cons,List.drop_zero,Nat.zero_add,Nat.reduceAdd]
 rw[signs,if_pos hb,signs,if_pos hc,signs]
 rfl
theorem yhy {d:List UInt8}{t:Tx}(h:listAll d=Option.none):readOf d (some t)=Option.none:=by
 unfold readOf bodyRead;simp only;rw[h]
theorem yhx {d:List UInt8}{t:Tx}{K:List (List UInt8)}(h:listAll d=some K)(hl:K.length≠t.want):readOf d (some t)=Option.none:=by
 unfold readOf bodyRead;simp only;rw[h];simp only;rw[if_neg hl]
theorem yhc :∀(l:List (List UInt8)) (t:Tx) (i j:Nat) (hj:j<l.length),i+j≠4→numAll l[j]=Option.none→fill t i l=Option.none:=by
 intro l
 induction l with
 | nil=>intro t k j hj;simp at hj
 | cons x r ih=>
   intro t i j hj h4 hx
   rw[fill]
   match j with
   | 0=>
     rw[if_neg (by simpa using h4)]
     simp only[List.getElem_cons_zero]at hx
     rw[hx]
   | j+1=>
     have q:=fun t'=>ih t' (i+1) j (by simpa using hj) (by omega) (by simpa using hx)
     split
     · exact q _
     · cases numAll x with
       | none=>rfl
       | some n=>exact q _
theorem yhw {d:List UInt8}{t:Tx}{K:List (List UInt8)}(h:listAll d=some K){j:Nat}(hj:j<K.length)(h4:j≠4)(hn:numAll K[j]=Option.none):readOf d (some t)=Option.none:=by
 unfold readOf bodyRead
 simp only
 rw[h]
 simp only
 by_cases hl:K.length=t.want
 · rw[if_pos hl,yhc K _ 0 j hj (by omega) hn]
 · rw[if_neg hl]
theorem ylg {d:List UInt8}{b:List UInt8}{K:List (List UInt8)}(h:listAll d=some K)(hl:K.length=5){n0 n1 n2 n3:Int}
 (h0:numAll (K[0]'(by omega))=some n0) (h1:numAll (K[1]'(by omega))=some n1) (h2:numAll (K[2]'(by omega))=some n2) (h3:numAll (K[3]'(by omega))=some n3):
 readOf d (some { Tx.none with tag:=b })=if (Tx.mk n0 n1 n2 n3 ⟨(K[4]'(by omega)).toArray⟩ false 0 0 Tx.zero b).err=0 then some (Tx.mk n0 n1 n2 n3 ⟨(K[4]'(by omega)).toArray⟩ false 0 0 Tx.zero b) else Option.none:=by
 match K,hl with
 | [k0,k1,k2,k3,k4],_=>
   simp only[List.getElem_cons_zero,List.getElem_cons_succ]at h0 h1 h2 h3 ⊢
   have hf:fill (Tx.withData { Tx.none with tag:=b } k4) 0 [k0,k1,k2,k3,k4]=some (Tx.mk n0 n1 n2 n3 ⟨k4.toArray⟩ false 0 0 Tx.zero b):=by
    simp only[fill,h0,h1,h2,h3]
    rfl
   unfold readOf bodyRead
   simp only
   rw[h]
   simp only
   rw[if_pos (by rfl)]
   rw[show [k0,k1,k2,k3,k4].getD 4 []=k4 from rfl,hf]
theorem yj0 {d:List UInt8}{b c:List UInt8}{K:List (List UInt8)}(h:listAll d=some K)(hl:K.length=7){n0 n1 n2 n3 n5 n6:Int}
 (h0:numAll (K[0]'(by omega))=some n0) (h1:numAll (K[1]'(by omega))=some n1) (h2:numAll (K[2]'(by omega))=some n2) (h3:numAll (K[3]'(by omega))=some n3) (h5:numAll (K[5]'(by omega))=some n5) (h6:numAll (K[6]'(by omega))=some n6):
 readOf d (some { Tx.none with tag:=b,bY:=c,lane:=true })=if (Tx.mk n0 n1 n2 n3 ⟨(K[4]'(by omega)).toArray⟩ true n5 n6 c b).err=0 then some (Tx.mk n0 n1 n2 n3 ⟨(K[4]'(by omega)).toArray⟩ true n5 n6 c b) else Option.none:=by
 match K,hl with
 | [k0,k1,k2,k3,k4,k5,k6],_=>
   simp only[List.getElem_cons_zero,List.getElem_cons_succ]at h0 h1 h2 h3 h5 h6 ⊢
   have hf:fill (Tx.withData { Tx.none with tag:=b,bY:=c,lane:=true } k4) 0 [k0,k1,k2,k3,k4,k5,k6]=some (Tx.mk n0 n1 n2 n3 ⟨k4.toArray⟩ true n5 n6 c b):=by
    simp only[fill,h0,h1,h2,h3,h5,h6]
    rfl
   unfold readOf bodyRead
   simp only
   rw[h]
   simp only
   rw[if_pos (by rfl)]
   rw[show [k0,k1,k2,k3,k4,k5,k6].getD 4 []=k4 from rfl,hf]
end Tx
theorem ys7 {α : Type}{L:List α}(h:L.length=2):L=[L[0]'(by omega),L[1]'(by omega)]:=by
 match L,h with
 | [a,b],_=>rfl
theorem yn9 {α : Type}{L:List α}(h:L.length=3):L=[L[0]'(by omega),L[1]'(by omega),L[2]'(by omega)]:=by
 match L,h with
 | [a,b,c],_=>rfl
theorem yeh (l:List UInt8):(ByteArray.mk l.toArray).data.toList=l:=by simp
theorem yqn {Y:ByteArray}{l:List UInt8}(h:Y.data.toList=l):(⟨l.toArray⟩:ByteArray)=Y:=by
 rw[←h]
end
section
open Go.RowKit
namespace Tx
theorem fill5 (t:Tx)(a b c d:List UInt8)(e:List UInt8)(u:Tx):fill t 0 [a,b,c,d,e]=some u↔∃n0 n1 n2 n3,numAll a=some n0∧numAll b=some n1∧numAll c=some n2∧numAll d=some n3∧u = { t with frm:=n0,nonce:=n1,fee:=n2,to:=n3 }:=by
 unfold fill
 cases numAll a <;> simp
 unfold fill
 cases numAll b <;> simp
 unfold fill
 cases numAll c <;> simp
 unfold fill
 cases numAll d <;> simp
 unfold fill
 simp
 unfold fill
 simp[put]
 exact eq_comm
theorem fill7 (t:Tx)(a b c d:List UInt8)(e f g:List UInt8)(u:Tx):fill t 0 [a,b,c,d,e,f,g]=some u↔∃n0 n1 n2 n3 n5 n6,numAll a=some n0∧numAll b=some n1∧numAll c=some n2∧numAll d=some n3∧numAll f=some n5∧numAll g=some n6∧u = { t with frm:=n0,nonce:=n1,fee:=n2,to:=n3,round:=n5,turn:=n6 }:=by
 unfold fill
 cases numAll a <;> simp
 unfold fill
 cases numAll b <;> simp
 unfold fill
 cases numAll c <;> simp
 unfold fill
 cases numAll d <;> simp
 unfold fill
 simp
 unfold fill
 cases numAll f <;> simp
 unfold fill
 cases numAll g <;> simp
 unfold fill
 simp[put]
 exact eq_comm
theorem yrd {α : Type}{l:List α}(h:l.length=5) :∃a b c d e,l=[a,b,c,d,e]:=by
 match l,h with
 | [a,b,c,d,e],_=>exact⟨a,b,c,d,e,rfl⟩
theorem ymi {α : Type}{l:List α}(h:l.length=7) :∃a b c d e f g,l=[a,b,c,d,e,f,g]:=by
 match l,h with
 | [a,b,c,d,e,f,g],_=>exact⟨a,b,c,d,e,f,g,rfl⟩
theorem ygp {d:List UInt8}{F:Option Tx}{u:Tx}(h:readOf d F=some u) :∃t,F=some t∧t.bodyRead d=some u∧u.err=0:=by
 unfold readOf at h
 cases F with
 | none=>simp at h
 | some t=>
   simp only at h
   cases hb:t.bodyRead d with
   | none=>rw[hb]at h;simp at h
   | some v=>
     rw[hb]at h
     simp only at h
     split at h
     · next he=>
       simp at h
       subst h
       exact⟨t,rfl,hb,he⟩
     · simp at h
theorem yjg {t u:Tx}{d:List UInt8}(h:t.bodyRead d=some u) :∃l,Oct.listE l=(d,0)∧(∀x∈l,x.length≤65536)∧l.length=t.want∧fill (t.withData (l.getD 4 [])) 0 l=some u:=by
 unfold bodyRead at h
 cases hL:listAll d with
 | none=>rw[hL]at h;simp at h
 | some l=>
   rw[hL]at h
   simp only at h
   split at h
   · next hw=>exact⟨l,yds hL,ybv hL,hw,h⟩
   · simp at h
theorem yct {s:List UInt8}{n:Int}(h:numAll s=some n):fits n:=by
 have:=ybn h
 exact⟨by omega,this.2.1⟩
theorem yl0 {t:Tx}(h:t.lane=true):t.fields=[Oct.num t.frm.toNat,Oct.num t.nonce.toNat,Oct.num t.fee.toNat,Oct.num t.to.toNat,t.data.data.toList,Oct.num t.round.toNat,Oct.num t.turn.toNat]:=by unfold fields lays;rw[if_pos h];rfl
theorem ykm {t:Tx}(h:t.lane=false):t.fields=[Oct.num t.frm.toNat,Oct.num t.nonce.toNat,Oct.num t.fee.toNat,Oct.num t.to.toNat,t.data.data.toList]:=by unfold fields lays;rw[if_neg (by rw[h];simp)];rfl
theorem yii {t u:Tx}{d:List UInt8}(ht:t.Ok)(h:t.bodyRead d=some u)(he:u.err=0):u.Ok∧u.bodyE=(d,0)∧u.lane=t.lane∧u.bY=t.bY∧u.tag=t.tag:=by
 obtain⟨l,hl,hlt,hw,hf⟩:=yjg h
 have hb:u.bodyE=Oct.listE u.fields:=by unfold bodyE;rw[if_pos he]
 unfold want at hw
 rcases Bool.eq_false_or_eq_true t.lane with hla|hla
 · rw[if_pos hla]at hw
   obtain⟨a,b,c,e,x,f,g,rfl⟩:=ymi hw
   obtain⟨n0,n1,n2,n3,n5,n6,k0,k1,k2,k3,k5,k6,rfl⟩:=(fill7 _ _ _ _ _ _ _ _ _).1 hf
   have hx:x.length≤65536:=hlt x (by simp)
   refine⟨⟨ht.bY,ht.tag,(by show x.length≤_;omega),yct k0,yct k1,yct k2,yct k3,yct k5,yct k6⟩,?_,rfl,rfl,rfl⟩
   rw[hb,←hl]
   congr 1
   refine(yl0 (by exact hla)).trans ?_
   show [Oct.num n0.toNat,Oct.num n1.toNat,Oct.num n2.toNat,Oct.num n3.toNat,x,Oct.num n5.toNat,Oct.num n6.toNat]=_
   rw[(ybn k0).2.2,(ybn k1).2.2,(ybn k2).2.2,(ybn k3).2.2,(ybn k5).2.2,(ybn k6).2.2]
 · rw[if_neg (by rw[hla];simp)]at hw
   obtain⟨a,b,c,e,x,rfl⟩:=yrd hw
   obtain⟨n0,n1,n2,n3,k0,k1,k2,k3,rfl⟩:=(fill5 _ _ _ _ _ _ _).1 hf
   have hx:x.length≤65536:=hlt x (by simp)
   refine⟨⟨ht.bY,ht.tag,(by show x.length≤_;omega),yct k0,yct k1,yct k2,yct k3,ht.round,ht.turn⟩,?_,rfl,rfl,rfl⟩
   rw[hb,←hl]
   congr 1
   refine(ykm (by exact hla)).trans ?_
   show [Oct.num n0.toNat,Oct.num n1.toNat,Oct.num n2.toNat,Oct.num n3.toNat,x]=_
   rw[(ybn k0).2.2,(ybn k1).2.2,(ybn k2).2.2,(ybn k3).2.2]
theorem yph {s:List UInt8}{u:Tx}(h:read s=some u):u.Ok∧u.textE=(s,0):=by
 unfold read at h
 cases hL:listAll s with
 | none=>rw[hL]at h;simp at h
 | some l=>
   rw[hL]at h
   simp only at h
   have hE:=yds hL
   split at h
   · next hw=>
     obtain⟨t,hs,hb,he⟩:=ygp h
     rcases hw with hw|hw
     · obtain⟨b,x,rfl⟩ :∃b x,l=[b,x]:=by
        match l,hw with
        | [b,x],_=>exact⟨b,x,rfl⟩
       have hs':signs none 0 [x]=some t:=hs
       unfold signs at hs'
       split at hs'
       · next hx=>
         have ht:t = { none with tag:=x }:=by unfold signs at hs';exact(Option.some.inj hs').symm
         subst ht
         have hto:Ok { none with tag:=x }:=⟨rfl,hx,yb1.data,fits0,fits0,fits0,fits0,fits0,fits0⟩
         have hb':bodyRead { none with tag:=x } b=some u:=hb
         obtain⟨h1,h2,h3,h4,h5⟩:=yii hto hb' he
         refine⟨h1,?_⟩
         unfold textE
         rw[h2]
         refine(if_pos rfl).trans ?_
         have ho:u.outer b=[b,x]:=by unfold outer;rw[if_neg (by rw[h3];simp[none]),h5]
         show Oct.listE (u.outer b)=_
         rw[ho]
         exact hE
       · simp at hs'
     · obtain⟨b,x,y,rfl⟩ :∃b x y,l=[b,x,y]:=by
        match l,hw with
        | [b,x,y],_=>exact⟨b,x,y,rfl⟩
       have hs':signs none 0 [x,y]=some t:=hs
       unfold signs at hs'
       split at hs'
       · next hx=>
         unfold signs at hs'
         split at hs'
         · next hy=>
           have ht:t = { none with tag:=x,bY:=y,lane:=true }:=by unfold signs at hs';exact(Option.some.inj hs').symm
           subst ht
           have hto:Ok { none with tag:=x,bY:=y,lane:=true }:=⟨hy,hx,yb1.data,fits0,fits0,fits0,fits0,fits0,fits0⟩
           have hb':bodyRead { none with tag:=x,bY:=y,lane:=true } b=some u:=hb
           obtain⟨h1,h2,h3,h4,h5⟩:=yii hto hb' he
           refine⟨h1,?_⟩
           unfold textE
           rw[h2]
           refine(if_pos rfl).trans ?_
           have ho:u.outer b=[b,x,y]:=by unfold outer;rw[if_pos h3,h4,h5]
           show Oct.listE (u.outer b)=_
           rw[ho]
           exact hE
         · simp at hs'
       · simp at hs'
   · simp at h
end Tx
end
section
open Go.RowKit
theorem Tx.ycv {s:List UInt8}{t:Tx}(h:Tx.read s=some t):t.Ok∧t.err=0:=by
 refine⟨(Tx.yph h).1,?_⟩
 unfold Tx.read at h
 split at h
 · cases h
 · split at h
   · obtain⟨_,_,_,he⟩:=Tx.ygp h
     exact he
   · cases h
theorem Tx.ycq {t:Tx}(h5:t.err=0):0≤t.frm∧t.frm≤63:=by
 unfold Tx.err at h5
 by_cases ha:Tx.acct t.frm=false∨Tx.acct t.to=false
 · rw[if_pos ha]at h5;cases h5
 · have h6:Tx.acct t.frm=true:=by
    cases hq:Tx.acct t.frm with
    | true=>rfl
    | false=>exact absurd (.inl hq) ha
   unfold Tx.acct at h6
   simpa using h6
namespace Od
def whose (kind:Int)(body:ByteArray):Int:=if kind=1 then (match Tx.read body.data.toList with
 | none=>-1
 | some t=>t.frm) else -1
def by_ (r:Rp):Int:=whose r.kind r.body
def cnt (rs:List Rp)(who:Int):Nat:=rs.countP (fun r=>decide (by_ r=who))
def nexts (rs:List Rp):List Int:=(List.range 64).map (fun i:Nat=>((cnt rs (i:Int):Nat):Int))
def del (rs:List Rp):List Int:=(rs.filter (fun r=>decide (by_ r = -1))).map (·.index)
def head (rs:List Rp):List UInt8:=match rs.getLast? with
 | none=>Tx.zero
 | some r=>r.hash
def last (rs:List Rp):Int:=match rs.getLast? with
 | none=>0
 | some r=>r.time
def ask (rs:List Rp)(kind:Int)(body:ByteArray):Int×Int:=if kind=1 then (match Tx.read body.data.toList with
 | none=>(-1,6)
 | some t=>if t.signedE=0 then (if t.nonce=(cnt rs t.frm:Int) then (t.frm,0) else (-1,22)) else (-1,21)) else (-1,0)
def raw (rs:List Rp)(kind:Int)(body:ByteArray)(time:Int):Rp:=⟨rs.length,kind,time,body,head rs,Tx.zero⟩
def mk (rs:List Rp)(kind:Int)(body:ByteArray)(time:Int):Rp×Int×Int:=
 if rs≠[]∧time<last rs then (Rp.zero,-1,33)
 else if (ask rs kind body).2=0 then ((Rp.linkE (raw rs kind body time)).1,(ask rs kind body).1,(Rp.linkE (raw rs kind body time)).2)
 else (Rp.zero,-1,(ask rs kind body).2)
theorem ydq {rs:List Rp}{kind time:Int}{body:ByteArray}(h:rs≠[]∧time<last rs):mk rs kind body time=(Rp.zero,-1,33):=by unfold mk;rw[if_pos h]
theorem ye1 {rs:List Rp}{kind time:Int}{body:ByteArray}(h :¬(rs≠[]∧time<last rs))(ha:(ask rs kind body).2≠0):mk rs kind body time=(Rp.zero,-1,(ask rs kind body).2):=by unfold mk;rw[if_neg h,if_neg ha]
theorem ycj {rs:List Rp}{kind time:Int}{body:ByteArray}(h :¬(rs≠[]∧time<last rs))(ha:(ask rs kind body).2=0):mk rs kind body time=((Rp.linkE (raw rs kind body time)).1,(ask rs kind body).1,(Rp.linkE (raw rs kind body time)).2):=by unfold mk;rw[if_neg h,if_pos ha]
theorem ydl {rs:List Rp}{kind:Int}{body:ByteArray}(h:(ask rs kind body).2=0):(ask rs kind body).1=whose kind body∧(kind=1→0≤whose kind body∧whose kind body≤63)∧(kind≠1→whose kind body = -1):=by
 unfold ask at h ⊢
 unfold whose
 by_cases hk:kind=1
 · rw[if_pos hk]at h ⊢
   rw[if_pos hk]
   cases hr:Tx.read body.data.toList with
   | none=>rw[hr]at h;simp at h
   | some t=>
     rw[hr]at h
     simp only at h ⊢
     have hf:=Tx.ycq (Tx.ycv hr).2
     split at h
     · next h1=>
       split at h
       · next h2=>rw[if_pos h1,if_pos h2];exact⟨rfl,fun _=>hf,fun q=>absurd hk q⟩
       · simp at h
     · simp at h
 · rw[if_neg hk]at h ⊢
   rw[if_neg hk]
   exact⟨rfl,fun q=>absurd q hk,fun _=>rfl⟩
structure Took (rs:List Rp)(kind:Int)(body:ByteArray)(time:Int)(r:Rp)(who:Int):Prop where
 notEarly :¬(rs≠[]∧time<last rs)
 asks:(ask rs kind body).2=0
 ok:(raw rs kind body time).ok=true
 r:r=(raw rs kind body time).linked
 who:who=whose kind body
theorem yfd {rs:List Rp}{kind time:Int}{body:ByteArray}{r:Rp}{who:Int}(h:mk rs kind body time=(r,who,0)):Took rs kind body time r who:=by
 by_cases h1:rs≠[]∧time<last rs
 · rw[ydq h1]at h;simp at h
 by_cases h2:(ask rs kind body).2=0
 · rw[ycj h1 h2]at h
   simp only[Prod.mk.injEq]at h
   obtain⟨a,b,c⟩:=h
   by_cases h3:(raw rs kind body time).ok=true
   · unfold Rp.linkE at a
     rw[if_pos h3]at a
     exact⟨h1,h2,h3,a.symm,by rw[←b];exact(ydl h2).1⟩
   · unfold Rp.linkE at c
     rw[if_neg h3]at c
     cases c
 · rw[ye1 h1 h2]at h
   simp only[Prod.mk.injEq]at h
   exact absurd h.2.2 h2
theorem Took.to_mk {rs:List Rp}{kind time:Int}{body:ByteArray}{r:Rp}{who:Int}(h:Took rs kind body time r who):Od.mk rs kind body time=(r,who,0):=by
 rw[ycj h.notEarly h.asks]
 unfold Rp.linkE
 rw[if_pos h.ok,←h.r,h.who,(ydl h.asks).1]
section
variable {rs : List Rp} {kind time : Int} {body : ByteArray} {r : Rp} {who : Int}
theorem Took.index (h:Took rs kind body time r who):r.index=rs.length:=by rw[h.r];rfl
theorem Took.kindE (h:Took rs kind body time r who):r.kind=kind:=by rw[h.r];rfl
theorem Took.timeE (h:Took rs kind body time r who):r.time=time:=by rw[h.r];rfl
theorem Took.bodyE (h:Took rs kind body time r who):r.body=body:=by rw[h.r];rfl
theorem Took.prev (h:Took rs kind body time r who):r.prev=head rs:=by rw[h.r];rfl
theorem Took.rok (h:Took rs kind body time r who):r.ok=true:=by rw[h.r];exact h.ok
theorem Took.hash (h:Took rs kind body time r who):r.hash.length=32:=by rw[h.r];exact Rp.ybf _
theorem Took.by (h:Took rs kind body time r who):by_ r=who:=by unfold by_;rw[h.kindE,h.bodyE,h.who]
theorem Took.fits (h:Took rs kind body time r who)(hh:(head rs).length=32):r.Fits:=by
 have h1:=(Rp.ydg r).1 h.rok
 exact⟨by rw[h.prev];exact hh,h.hash,by omega,⟨by omega,by omega⟩,⟨by omega,by omega⟩,⟨by omega,by omega⟩⟩
theorem Took.again (h:Took rs kind body time r who):Od.mk rs r.kind r.body r.time=(r,who,0):=by rw[h.kindE,h.bodyE,h.timeE];exact h.to_mk
end
def Good (rs:List Rp):Prop :=∀k (h:k<rs.length),∃who,mk (rs.take k) rs[k].kind rs[k].body rs[k].time=(rs[k],who,0)
theorem Good.nil:Good []:=fun k h=>by simp at h
theorem Good.push {rs:List Rp}{kind time:Int}{body:ByteArray}{r:Rp}{who:Int}(hg:Good rs)(h:mk rs kind body time=(r,who,0)):Good (rs ++ [r]):=by
 intro k hk
 rw[List.length_append,List.length_singleton]at hk
 by_cases hkl:k<rs.length
 · obtain⟨w,hw⟩:=hg k hkl
   refine⟨w,?_⟩
   rw[List.take_append_of_le_length (by omega),List.getElem_append_left hkl]
   exact hw
 · have e:k=rs.length:=by omega
   subst e
   refine⟨who,?_⟩
   rw[List.take_append_of_le_length (Nat.le_refl _),List.take_length,List.getElem_append_right (Nat.le_refl _)]
   simp only[Nat.sub_self,List.getElem_cons_zero]
   exact(yfd h).again
theorem Good.take {rs:List Rp}(h:Good rs)(n:Nat):Good (rs.take n):=by
 intro k hk
 have hk2:k<n∧k<rs.length:=by rw[List.length_take]at hk;omega
 obtain⟨w,hw⟩:=h k hk2.2
 refine⟨w,?_⟩
 rw[List.take_take,Nat.min_eq_left (by omega),List.getElem_take]
 exact hw
theorem ydb {rs:List Rp}{n:Nat}(h:rs.length=n+1):head rs=(rs[n]'(by omega)).hash∧last rs=(rs[n]'(by omega)).time:=by
 have e:rs.getLast? = some (rs[n]'(by omega)):=by
  rw[List.getLast?_eq_getElem?,List.getElem?_eq_getElem (by omega)]
  congr 2
  omega
 unfold head last
 rw[e]
 exact⟨rfl,rfl⟩
theorem Good.took {rs:List Rp}(h:Good rs)(k:Nat)(hk:k<rs.length):Took (rs.take k) rs[k].kind rs[k].body rs[k].time rs[k] (by_ rs[k]):=by
 obtain⟨who,hw⟩:=h k hk
 have:=yfd hw
 rw[this.by]
 exact this
theorem Good.head {rs:List Rp}(h:Good rs):(Od.head rs).length=32:=by
 match hn:rs.length with
 | 0=>rw[List.length_eq_zero_iff.1 hn];rfl
 | n+1=>rw[(ydb hn).1];exact(h.took n (by omega)).hash
theorem Good.fits {rs:List Rp}(h:Good rs) :∀r∈rs,r.Fits:=by
 intro r hr
 obtain⟨k,hk,rfl⟩:=List.getElem_of_mem hr
 exact(h.took k hk).fits (h.take k).head
theorem Good.index {rs:List Rp}(h:Good rs)(k:Nat)(hk:k<rs.length):rs[k].index=k:=by
 rw[(h.took k hk).index,List.length_take];omega
theorem Good.by {rs:List Rp}(h:Good rs) :∀r∈rs,by_ r = -1∨(0≤by_ r∧by_ r≤63):=by
 intro r hr
 obtain⟨k,hk,rfl⟩:=List.getElem_of_mem hr
 have ht:=h.took k hk
 have:=ydl ht.asks
 unfold by_
 by_cases hk1:rs[k].kind=1
 · exact .inr (this.2.1 hk1)
 · exact .inl (this.2.2 hk1)
theorem yje (rs:List Rp)(r:Rp)(i:Int):cnt (rs ++ [r]) i=cnt rs i+if by_ r=i then 1 else 0:=by
 unfold cnt
 rw[List.countP_append,List.countP_singleton]
 simp
theorem yt5 (rs:List Rp)(i:Int):cnt rs i≤rs.length:=List.countP_le_length
theorem ycp (rs:List Rp):(nexts rs).length=64:=by unfold nexts;simp
theorem yez (rs:List Rp)(i:Nat)(h:i<64):(nexts rs)[i]'(by rw[ycp];exact h)=(cnt rs (i:Int):Int):=by unfold nexts;simp
theorem yn6 {rs:List Rp}{r:Rp}(h:by_ r = -1):nexts (rs ++ [r])=nexts rs:=by
 unfold nexts
 apply List.map_congr_left
 intro i _
 rw[yje,if_neg (by omega)]
 rfl
theorem yql {rs:List Rp}{r:Rp}{i:Nat}(h:by_ r=(i:Int))(hi:i<64):nexts (rs ++ [r])=(nexts rs).set i ((cnt rs (i:Int):Int)+1):=by
 apply List.ext_getElem
 · rw[List.length_set,ycp,ycp]
 intro j h1 h2
 rw[ycp]at h1
 rw[yez _ _ h1,List.getElem_set]
 rw[yje,h]
 by_cases e:i=j
 · subst e;simp
 · rw[if_neg (by omega),if_neg e,yez _ _ h1];rfl
theorem ym2 {rs:List Rp}{r:Rp}(h:by_ r≠-1):del (rs ++ [r])=del rs:=by
 unfold del
 rw[List.filter_append,List.filter_cons,if_neg (by simpa using h),List.filter_nil,List.append_nil]
theorem ym3 {rs:List Rp}{r:Rp}(h:by_ r = -1):del (rs ++ [r])=del rs ++ [r.index]:=by
 unfold del
 rw[List.filter_append,List.filter_cons,if_pos (by simpa using h),List.filter_nil,List.map_append]
 rfl
theorem yja (rs:List Rp):(del rs).length≤rs.length:=by
 unfold del
 rw[List.length_map]
 exact List.length_filter_le _ _
end Od
end
section
namespace Rw
def flat {α β : Type}(f : α→List β)(l:List α):List β:=l.flatMap f
theorem ykj {α β : Type}(f : α→List β)(x : α)(l:List α):flat f (x::l)=f x++flat f l:=rfl
theorem yej {α β : Type}(f : α→List β)(l k:List α):flat f (l++k)=flat f l++flat f k:=by
 unfold flat;rw[List.flatMap_append]
theorem yf4 {α β : Type}(f : α→List β)(x : α):flat f [x]=f x:=by simp[flat]
theorem yrc {α β : Type}(f : α→List β)(l:List α)(x : α):flat f (l ++ [x])=flat f l++f x:=by rw[yej,yf4]
theorem ye5 {α β : Type}{f : α→List β}{m:Nat}{l:List α}(h :∀x∈l,(f x).length=m):(flat f l).length=l.length*m:=by
 induction l with
 | nil=>simp[flat]
 | cons x t ih=>
   rw[ykj,List.length_append,h x (by simp),ih (fun y hy=>h y (by simp[hy])),List.length_cons,Nat.succ_mul]
   omega
theorem yuw {α β : Type}{f : α→List β}{m:Nat} :∀{l:List α}(h :∀x∈l,(f x).length=m) (i:Nat) (hi:i<l.length) (j:Nat) (v : β),(f l[i])[j]? = some v→(flat f l)[i*m+j]? = some v:=fun {l}=>by
 induction l with
 | nil=>intro h i hi;simp at hi
 | cons x t ih=>
   intro h i hi j v hv
   have hx:=h x (by simp)
   rw[ykj]
   match i with
   | 0=>
     rw[Nat.zero_mul,Nat.zero_add,List.getElem?_append_left (by
      have:=(List.getElem?_eq_some_iff.1 hv).1
      simpa using this)]
     exact hv
   | i+1=>
     rw[List.getElem?_append_right (by rw[hx,Nat.succ_mul];omega),hx,show (i+1)*m+j-m=i*m+j by rw[Nat.succ_mul];omega]
     exact ih (fun y hy=>h y (by simp[hy])) i (by simpa using hi) j v hv
end Rw
end
section
open Go.RowKit
structure OwnL {α : Type}(w:World)(base:Nat)(e:TypeId)(m:Nat)(f : α→List Value)(v:Value)(l:List α):Prop where
 own:w.ownsRow base e m v l.length (Rw.flat f l)
section
variable {α : Type} {w : World} {base : Nat} {e : TypeId} {m : Nat} {f : α → List Value} {v : Value} {l : List α}
theorem OwnL.nil (w:World)(base:Nat)(e:TypeId)(m:Nat)(f : α→List Value):OwnL w base e m f (.slice none 0 0) ([]:List α):=⟨World.ownsRow_nil _ _ _ _⟩
theorem OwnL.kept {w':World}{r:Option Nat}(h:OwnL w base e m f v l)(hg:w.grownBy w' r)(hne:v.ownBlock=none∨v.ownBlock≠r):OwnL w' base e m f v l:=⟨h.own.kept hg hne⟩
theorem OwnL.below {w':World}(h:OwnL w base e m f v l)(hb:Below w.heap.size w w'):OwnL w' base e m f v l:=
 h.kept (yae hb none) (by cases hv:v.ownBlock <;> simp)
theorem OwnL.alloc (h:OwnL w base e m f v l)(o:Obj):OwnL (w.alloc o) base e m f v l:=⟨h.own.alloc o⟩
theorem OwnL.mono {base':Nat}(h:OwnL w base e m f v l)(hb:base'≤base):OwnL w base' e m f v l:=by
 refine⟨h.own.1,?_⟩
 rcases h.own.2 with hn|⟨g,cap,cur,hv,hbb,rest⟩
 · exact .inl hn
 · exact .inr ⟨g,cap,cur,hv,by omega,rest⟩
theorem OwnL.lt (h:OwnL w base e m f v l) :∀k,v.ownBlock=some k→base≤k∧k<w.heap.size:=h.own.lt
theorem OwnL.form (h:OwnL w base e m f v l) :∃A c,v=.slice A l.length c∧l.length≤c∧c≤maxLen:=by
 rcases h.own.2 with⟨rfl,h0⟩|⟨g,cap,cur,rfl,_,_,h1,h2,_⟩
 · exact⟨none,0,by rw[h0],by omega,by unfold maxLen;omega⟩
 · exact⟨_,_,rfl,h1,h2⟩
theorem OwnL.ne (h:OwnL w base e m f v l)(h0:l≠[]) :∃g c,v=.slice (some ⟨g,0,none⟩) l.length c∧base≤g∧g<w.heap.size:=by
 rcases h.own.2 with⟨rfl,h1⟩|⟨g,cap,cur,rfl,hb,hg,_⟩
 · exact absurd (List.length_eq_zero_iff.1 h1) h0
 · exact⟨g,cap,rfl,hb,(Array.getElem?_eq_some_iff.1 hg).1⟩
theorem OwnL.type {g n c:Nat}(h:OwnL w base e m f (.slice (some ⟨g,0,none⟩) n c) l) :∃cur,w.heap[g]? = some (.cells cur e (0,0)):=by
 rcases h.own.2 with⟨h',_⟩|⟨g',cap',cur,h',_,hg,_⟩
 · simp at h'
 · simp only[Value.slice.injEq,Option.some.injEq,Addr.mk.injEq,and_true,true_and]at h'
   obtain⟨rfl,_⟩:=h'
   exact⟨cur,hg⟩
theorem OwnL.ne_block {B:Nat}{T:TypeId}{xs:List Value}(h:OwnL w base e m f v l)(hr:Row w B T xs)(hT:T≠e):v.ownBlock≠Option.some B:=by
 intro hv
 obtain⟨A,c,rfl,_⟩:=h.form
 rcases h.own.2 with⟨h',_⟩|⟨g,cap,cur,h',_,hg,_⟩
 · rw[h']at hv;simp[Value.ownBlock]at hv
 · rw[h']at hv
   simp[Value.ownBlock]at hv
   subst hv
   unfold Row at hr
   rw[hr]at hg
   simp at hg
   exact hT hg.2
theorem OwnL.at {g n c:Nat}(h:OwnL w base e m f (.slice (Option.some ⟨g,0,none⟩) n c) l)(hm :∀x∈l,(f x).length=m)(k:Nat)(hk:k<l.length):w.rangeAt g (k*m) (f l[k]):=by
 intro j v hv
 have h1:=Rw.yuw hm k hk j v hv
 have hn:n=l.length:=by
  rcases h.own.2 with⟨h',_⟩|⟨_,_,_,h',_⟩
  · simp at h'
  · injection h'
 subst hn
 have hlt:=(List.getElem?_eq_some_iff.1 h1).1
 rw[h.own.1]at hlt
 exact(h.own.cellAt _ hlt).trans h1
theorem OwnL.cell {g n c:Nat}(h:OwnL w base e m f (.slice (Option.some ⟨g,0,none⟩) n c) l)(hm :∀x∈l,(f x).length=m)(k:Nat)(hk:k<l.length)(j:Nat)(u:Value)(hu:(f l[k])[j]? = Option.some u):w.cell? ⟨g,k*m+j,none⟩=Option.some u:=h.at hm k hk j u hu
theorem OwnL.pushed {w':World}{v':Value}{x : α}(h:w'.ownsRow base e m v' (l.length+1) (Rw.flat f l++f x)):OwnL w' base e m f v' (l ++ [x]):=by
 constructor
 rw[Rw.yrc,List.length_append]
 exact h
end
end
section
open Go.RowKit Go.Maps
structure Chg (S:Nat→Prop)(w w':World):Prop where
 os:w'.os=w.os
 tape:w'.tape=w.tape
 output:w'.output=w.output
 size:w.heap.size≤w'.heap.size
 block :∀k,k<w.heap.size→¬S k→w'.heap[k]? = w.heap[k]?
theorem Chg.refl (S:Nat→Prop)(w:World):Chg S w w:=⟨rfl,rfl,rfl,Nat.le_refl _,fun _ _ _=>rfl⟩
theorem Chg.trans {S S2:Nat→Prop}{a b c:World}(h:Chg S a b)(k:Chg S2 b c)(hS :∀i,S2 i→S i∨a.heap.size≤i):Chg S a c:=
 ⟨k.os.trans h.os,k.tape.trans h.tape,k.output.trans h.output,Nat.le_trans h.size k.size,fun i hi hn=>
  (k.block i (Nat.lt_of_lt_of_le hi h.size) (fun h2=>by rcases hS i h2 with h3|h3 <;> first|exact hn h3|omega)).trans (h.block i hi hn)⟩
theorem Chg.mono {S S2:Nat→Prop}{a b:World}(h:Chg S a b)(hS :∀i,S i→S2 i):Chg S2 a b:=⟨h.os,h.tape,h.output,h.size,fun i hi hn=>h.block i hi (fun h2=>hn (hS i h2))⟩
theorem Chg.yat {S:Nat→Prop}{w w':World}{r:Option Nat}(h:w.grownBy w' r)(hr :∀k,r=some k→S k∨w.heap.size≤k):Chg S w w':=
 ⟨h.os,h.tape,h.output,h.size,fun i hi hn=>h.block i hi (fun e=>by rcases hr i e.symm with h3|h3 <;> first|exact hn h3|omega)⟩
theorem Chg.ya6 {S:Nat→Prop}{w w':World}(h:Below w.heap.size w w'):Chg S w w':=⟨h.os,h.tape,h.output,h.size,fun i hi _=>h.block i hi⟩
theorem Chg.below {S:Nat→Prop}{w w':World}{B:Nat}(h:Chg S w w')(hB:B≤w.heap.size)(hS :∀k,S k→B≤k):Below B w w':=
 ⟨h.os,h.tape,h.output,h.size,fun i hi=>h.block i (by omega) (fun h2=>by have:=hS i h2;omega)⟩
theorem Chg.grown {S:Nat→Prop}{w w':World}(h:Chg S w w'){r:Option Nat}(hS :∀k,S k→some k=r):w.grownBy w' r:=
 ⟨h.os,h.tape,h.output,h.size,fun i hi hn=>h.block i hi (fun h2=>hn (hS i h2))⟩
theorem Chg.row {S:Nat→Prop}{w w':World}(h:Chg S w w'){g:Nat}{T:TypeId}{xs:List Value}(hr:Row w g T xs)(hS :¬S g):Row w' g T xs:=(h.block g hr.lt hS).trans hr
theorem OwnL.chg {S:Nat→Prop}{w w':World}{α : Type}{base:Nat}{e:TypeId}{m:Nat}{f : α→List Value}{v:Value}{l:List α}(h:OwnL w base e m f v l)(hc:Chg S w w')(hS :∀k,v.ownBlock=some k→¬S k):OwnL w' base e m f v l:=by
 constructor
 refine⟨h.own.1,?_⟩
 rcases h.own.2 with hn|⟨g,cap,cur,rfl,hb,hh,rest⟩
 · exact .inl hn
 · exact .inr ⟨g,cap,cur,rfl,hb,(hc.block g (Array.getElem?_eq_some_iff.1 hh).1 (hS g rfl)).trans hh,rest⟩
theorem ybt {S:Nat→Prop}{a b c:World}{B:Nat}(h:Below B a b)(hc:Chg S b c)(hB:B≤b.heap.size)(hS :∀k,S k→B≤k):Below B a c:=
 h.trans (hc.below hB hS)
theorem ybz {w:World}{g h:Nat}{T U:TypeId}{xs ys:List Value}(h1:Row w g T xs)(h2:Row w h U ys)(hT:T≠U):g≠h:=by
 rintro rfl
 unfold Row at h1 h2
 rw[h1]at h2
 simp at h2
 exact hT h2.2
end
section
open Go.RowKit
theorem ye8 {P:Program}(w:World)(base:Nat)(t ty e:TypeId)(i:TypeInfo)(z:Value)(size bytes:Nat)(ht:P.underlying t=some (.slice e))(hi:P.info? e=some i)(hz:i.zero=some z)
 (hsize:i.size=size) (hby:i.bytes=bytes) (hzs:z.cells.size=size) (hsz:0<size)
 (v:Value) (n:Nat) (xs:List Value) (hown:w.ownsRow base e size v n xs)
 (a:Addr) (m c:Nat) (news:List Value) (hl:news.length=m*size) (hnews :∀j u,news[j]? = some u→w.cell? (a.add j)=some u) (h1 :∀u∈news,u.oneCell'=true) (hm:0<m)
 (h63:n+m≤maxLen) (hbytes:((n+m)+(n+m) / 4+192)*bytes≤281474976710656) (hbase:base≤w.heap.size):
 ∃v' w',(Builtin.append_ #[t,t] ty #[v,.slice (some a) m c]).run P w=.ok v' w'∧w'.ownsRow base e size v' (n+m) (xs++news)∧w.grownBy w' v.ownBlock∧
  (v'.ownBlock=v.ownBlock∨v'.ownBlock=some w.heap.size):=by
 obtain⟨v',w',hr,h2,h3,_⟩:=run_append_own_wide (P:=P) w base t ty e i z size bytes ht hi hz hsize hby hzs hsz v n xs hown a m c news hl hnews h1 h63 hbytes hbase
 refine⟨v',w',hr,h2,h3,?_⟩
 subst hsize
 subst hby
 have hsmall:n+m≤9223372036854775807:=by simp only[maxLen]at h63;omega
 rcases hown.2 with⟨rfl,rfl⟩|⟨g,cap,cur,rfl,hbg,hg,hnc,hcm,hcs,htake⟩
 · have hk:=run_append_nil (P:=P) w t ty e i z ht hi hz a m c news hl hnews hm (by omega) (by simp only[Nat.zero_add]at hbytes;exact Nat.le_trans (Nat.mul_le_mul_right _ (by omega)) hbytes)
   rw[hr]at hk
   injection hk with hk1 hk2
   right
   rw[hk1];rfl
 · by_cases hroom:n+m≤cap
   · have hfit:n*i.size+news.length≤cur.size:=by rw[hl,hcs,←Nat.add_mul];exact Nat.mul_le_mul_right _ hroom
     have hk:=run_append_room (P:=P) w t ty e i ht hi g n cap cur hg a m c news hl hnews h1 hroom hfit
     rw[hr]at hk
     injection hk with hk1 hk2
     left
     rw[hk1];rfl
   · have holds :∀j u,xs[j]? = some u→w.cell? ((⟨g,0,none⟩:Addr).add j)=some u:=hown.cells (g:=g) rfl
     have hk:=run_append_grow (P:=P) w t ty e i z ht hi hz ⟨g,0,none⟩ n cap xs hown.1 holds a m c news hl hnews (by omega) (by omega) (growslice_fits_wide (by omega) hbytes)
     rw[hr]at hk
     injection hk with hk1 hk2
     right
     rw[hk1];rfl
theorem ybx {P:Program}{w:World}{o:Oper}{a:Act}{K:Act→World→Prop}{Q:Exit→Act→World→Prop}(s x:Operand)(t:TypeId)
 (ho:o.op=.call { callee:=.builtin .append,args:=#[s,x],argTypes:=#[t,t] })
 (base:Nat) (e:TypeId) (i:TypeInfo) (z:Value) (size bytes:Nat) (ht:P.underlying t=some (.slice e)) (hi:P.info? e=some i) (hz:i.zero=some z)
 (hsize:i.size=size) (hby:i.bytes=bytes) (hzs:z.cells.size=size) (hsz:0<size)
 (v:Value) (n:Nat) (xs:List Value) (hs:a.eval s=v) (hown:w.ownsRow base e size v n xs)
 (ad:Addr) (m c:Nat) (news:List Value) (hx:a.eval x=.slice (some ad) m c) (hl:news.length=m*size) (hnews :∀j u,news[j]? = some u→w.cell? (ad.add j)=some u) (h1 :∀u∈news,u.oneCell'=true) (hm:0<m)
 (h63:n+m≤maxLen) (hbytes:((n+m)+(n+m) / 4+192)*bytes≤281474976710656) (hbase:base≤w.heap.size)
 (h :∀v' w',w'.ownsRow base e size v' (n+m) (xs++news)→w.grownBy w' v.ownBlock→(v'.ownBlock=v.ownBlock∨v'.ownBlock=some w.heap.size)→K (a.put o.dst v') w'):o.wp P a w K Q:=by
 obtain⟨v',w',hr,h2,h3,h4⟩:=ye8 (P:=P) w base t o.type e i z size bytes ht hi hz hsize hby hzs hsz v n xs hown ad m c news hl hnews h1 hm h63 hbytes hbase
 unfold Oper.wp execOp
 simp only[ho,resolve,invoke,builtin,Sem.run_bind,Sem.run_pure,Result.andThen_ok,List.map_toArray,List.map_cons,List.map_nil,hs,hx,hr]
 exact h v' w' h2 h3 h4
theorem ycn {P:Program}{w:World}{ops:Array Oper}{rest:List Oper}{o:Oper}{a:Act}{Q:Exit→Act→World→Prop}(hgd:o.guard=none)(s x:Operand)(t:TypeId)
 (ho:o.op=.call { callee:=.builtin .append,args:=#[s,x],argTypes:=#[t,t] })
 (base:Nat) (e:TypeId) (i:TypeInfo) (z:Value) (size bytes:Nat) (ht:P.underlying t=some (.slice e)) (hi:P.info? e=some i) (hz:i.zero=some z)
 (hsize:i.size=size) (hby:i.bytes=bytes) (hzs:z.cells.size=size) (hsz:0<size)
 (v:Value) (n:Nat) (xs:List Value) (hs:a.eval s=v) (hown:w.ownsRow base e size v n xs)
 (ad:Addr) (m c:Nat) (news:List Value) (hx:a.eval x=.slice (some ad) m c) (hl:news.length=m*size) (hnews :∀j u,news[j]? = some u→w.cell? (ad.add j)=some u) (h1 :∀u∈news,u.oneCell'=true) (hm:0<m)
 (h63:n+m≤maxLen) (hbytes:((n+m)+(n+m) / 4+192)*bytes≤281474976710656) (hbase:base≤w.heap.size)
 (h :∀v' w',w'.ownsRow base e size v' (n+m) (xs++news)→w.grownBy w' v.ownBlock→(v'.ownBlock=v.ownBlock∨v'.ownBlock=some w.heap.size)→wpList P ops Q rest (a.put o.dst v') w'):wpList P ops Q (o::rest) a w:=
 wpList_plain hgd fun _ hK=>ybx s x t ho base e i z size bytes ht hi hz hsize hby hzs hsz v n xs hs hown ad m c news hx hl hnews h1 hm h63 hbytes hbase fun v' w' h2 h3 h4=>hK _ _ (h v' w' h2 h3 h4)
end
end Go.Proofs.YtalfnadejpmjnaaGreatDoor
