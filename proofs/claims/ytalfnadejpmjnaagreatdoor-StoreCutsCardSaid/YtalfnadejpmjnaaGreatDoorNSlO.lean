/- A part. -/
import Derived.Test.YtalfnadejpmjnaaGreatDoorChecked
import Derived.Test.YtalfnadejpmjnaaGreatDoorNMin
import Derived.WalkKit
import Derived.Below
import Derived.Lib.Hide
import Derived.LoopTactic
import Derived.Outline
import Derived.Laws.BytesString
import Derived.Laws.BytesArg
import Derived.Laws.BitsAllLaws
import Derived.Laws.BitsLemmas
import Derived.BigQuiet
import Derived.Deep.QuietTactic
import Derived.Laws.MakeOwn
import Derived.Lib.BufferWrite
import Derived.Laws.CopyOwn
import Derived.Deep.RegionWith
import Derived.Laws.AppendOwn
import Derived.OwnWalk
import Derived.Lib.AppendStr
import Derived.Lib.ConvBytes
import Derived.Laws.IdiomCopy
set_option linter.unusedVariables false
set_option linter.unusedSimpArgs false
set_option maxRecDepth 100000
set_option maxHeartbeats 25600000
namespace Go.Proofs.YtalfnadejpmjnaaGreatDoor
section
namespace Oct
def bigs:Nat→Nat→List UInt8
 | 0,_=>[]
 | f+1,n=>if n=0 then [] else bigs f (n / 256) ++ [UInt8.ofNat (n%256)]
def val (l:List UInt8):Nat:=l.foldl (fun a b=>a*256+b.toNat) 0
def num (n:Nat):List UInt8:=UInt8.ofNat (bigs 8 n).length::bigs 8 n
def text (s:List UInt8):List UInt8:=num s.length++s
theorem ydn (l:List UInt8)(b:UInt8):val (l ++ [b])=val l*256+b.toNat:=by
 simp[val,List.foldl_append]
theorem yo8:val []=0:=rfl
theorem yc6 (n:Nat):(UInt8.ofNat (n%256)).toNat=n%256:=by
 simp
theorem ym5 (f n:Nat):(bigs f n).length≤f:=by
 induction f generalizing n with
 | zero=>simp[bigs]
 | succ f ih=>
   unfold bigs
   split
   · simp
   · have:=ih (n / 256)
     simp;omega
theorem yme (f n:Nat)(h:n<256 ^ f):val (bigs f n)=n:=by
 induction f generalizing n with
 | zero=>simp at h;subst h;rfl
 | succ f ih=>
   unfold bigs
   split
   · next h0=>rw[h0];rfl
   · rw[ydn,ih (n / 256) (by rw[Nat.div_lt_iff_lt_mul (by decide)];rw[Nat.pow_succ]at h;exact h),yc6]
     omega
theorem yrv (f n:Nat)(h:n<256 ^ f):(bigs f n).head?≠some 0:=by
 induction f generalizing n with
 | zero=>simp[bigs]
 | succ f ih=>
   unfold bigs
   split
   · simp
   · next h0=>
     have hd:n / 256<256 ^ f:=by rw[Nat.div_lt_iff_lt_mul (by decide)];rw[Nat.pow_succ]at h;exact h
     have:=ih (n / 256) hd
     cases hb:bigs f (n / 256) with
     | nil=>
       have hv:=yme f (n / 256) hd
       rw[hb,yo8]at hv
       simp only[List.nil_append,List.head?_cons]
       intro he
       have he':UInt8.ofNat (n%256)=0:=by simpa using he
       have:=congrArg UInt8.toNat he'
       rw[yc6]at this
       simp at this;omega
     | cons c r=>rw[hb]at this;simpa using this
theorem yo9 (l:List UInt8):val l<256 ^ l.length:=by
 induction hl:l.length generalizing l with
 | zero=>have:l=[]:=List.length_eq_zero_iff.1 hl;subst this;simp[yo8]
 | succ k ih=>
   rcases List.eq_nil_or_concat l with h|⟨r,b,h⟩
   · subst h;simp at hl
   · subst h
     simp at hl
     rw[List.concat_eq_append,ydn]
     have:=ih r hl
     have hb:=b.toNat_lt
     rw[Nat.pow_succ];omega
theorem ytm (f:Nat)(l:List UInt8)(hl:l.length≤f)(h0:l.head?≠some 0):bigs f (val l)=l:=by
 induction f generalizing l with
 | zero=>have:l=[]:=List.length_eq_zero_iff.1 (by omega);subst this;rfl
 | succ f ih=>
   rcases List.eq_nil_or_concat l with h|⟨r,b,h⟩
   · subst h;rfl
   · subst h
     rw[List.concat_eq_append]at *
     have hb:=b.toNat_lt
     have hr0:r.head?≠some 0:=by
      cases r with
      | nil=>simp
      | cons c r=>simpa using h0
     have hr:=ih r (by simp at hl;omega) hr0
     rw[ydn]
     unfold bigs
     have hd:(val r*256+b.toNat) / 256=val r:=by omega
     have hm:(val r*256+b.toNat)%256=b.toNat:=by omega
     rw[hd,hm,hr]
     split
     · next hz=>
       exfalso
       have hv:val r=0:=by omega
       have hbz:b.toNat=0:=by omega
       have hrn:r=[]:=by
        rw[←hr,hv]
        cases f <;> simp[bigs]
       subst hrn
       apply h0
       simp
       exact UInt8.toNat_inj.1 (by simpa using hbz)
     · simp
theorem yh5 (n:Nat):(num n).length=(bigs 8 n).length+1:=by simp[num]
theorem yay (n:Nat):(num n).length≤9:=by have:=ym5 8 n;rw[yh5];omega
theorem yhq (n:Nat):1≤(num n).length:=by rw[yh5];omega
def numE (n:Int):List UInt8×Int:=if n<0 then ([],2) else (num n.toNat,0)
def textE (s:List UInt8):List UInt8×Int:=if 65536<s.length then ([],3) else (text s,0)
def listGo:Nat→List (List UInt8)→Option (List UInt8)
 | _,[]=>some []
 | left,s::r=>if left<s.length then none else (listGo (left-s.length) r).map (text s ++ ·)
def listE (l:List (List UInt8)):List UInt8×Int:=
 if 1024<l.length then ([],3) else
  match listGo 65536 l with
  | none=>([],3)
  | some b=>(num l.length++b,0)
def rdNum (s:List UInt8)(p:Int):Int×Int×Int:=
 if p<0∨(s.length:Int)<p then (0,0,4) else
  match s.drop p.toNat with
  | []=>(0,0,5)
  | k::r=>
    if 8<k.toNat then (0,0,6) else
    if r.length<k.toNat then (0,0,5) else
    if (r.take k.toNat).head? = some 0∨2 ^ 63≤val (r.take k.toNat) then (0,0,6) else
     (val (r.take k.toNat),p+1+k.toNat,0)
def rdText (s:List UInt8)(p:Int):List UInt8×Int×Int:=
 match rdNum s p with
 | (n,q,e)=>
   if e≠0 then ([],0,e) else
   if 65536<n then ([],0,3) else
   if (s.length:Int)-q<n then ([],0,5) else
    ((s.drop q.toNat).take n.toNat,q+n,0)
def rdGo (s:List UInt8):Nat→Nat→Int→Except Int (List (List UInt8)×Int)
 | 0,_,q=>.ok ([],q)
 | n+1,left,q=>
   match rdText s q with
   | (t,b,e)=>
     if e≠0 then .error e else
     if left<t.length then .error 3 else
      match rdGo s n (left-t.length) b with
      | .error e=>.error e
      | .ok (l,q')=>.ok (t::l,q')
def rdList (s:List UInt8)(p:Int):List (List UInt8)×Int×Int:=
 match rdNum s p with
 | (n,q,e)=>
   if e≠0 then ([],0,e) else
   if 1024<n then ([],0,3) else
    match rdGo s n.toNat 65536 q with
    | .error e=>([],0,e)
    | .ok (l,q')=>(l,q',0)
theorem yce {s:List UInt8}{p n q e:Int}(h:rdNum s p=(n,q,e)):
 (e≠0∧n=0∧q=0)∨(e=0∧0≤p∧0≤n∧n<2 ^ 63∧p<q∧q≤s.length∧(s.drop p.toNat).take (q-p).toNat=num n.toNat):=by
 unfold rdNum at h
 split at h
 · left;simp at h;omega
 next hp=>
 have hp0:0≤p∧p≤s.length:=by omega
 cases hd:s.drop p.toNat with
 | nil=>rw[hd]at h;left;simp at h;omega
 | cons k r=>
   rw[hd]at h
   simp only at h
   split at h
   · left;simp at h;omega
   split at h
   · left;simp at h;omega
   split at h
   · left;simp at h;omega
   next h8 hr hz=>
   right
   simp only[Prod.mk.injEq]at h
   obtain⟨rfl,rfl,rfl⟩:=h
   have hlen:s.length-p.toNat=r.length+1:=by
    have:=congrArg List.length hd;simpa using this
   have hv:val (r.take k.toNat)<2 ^ 63:=by
    have :¬(2 ^ 63≤val (r.take k.toNat)):=fun x=>hz (Or.inr x)
    omega
   have h0:(r.take k.toNat).head?≠some 0:=fun x=>hz (Or.inl x)
   have hl:(r.take k.toNat).length=k.toNat:=by simp;omega
   refine⟨rfl,by omega,by omega,by omega,by omega,by omega,?_⟩
   have e1:(p+1+(k.toNat:Int)-p).toNat=k.toNat+1:=by omega
   rw[e1,List.take_succ_cons,Int.toNat_natCast]
   unfold num
   rw[ytm 8 _ (by omega) h0,hl]
   congr 1
   exact UInt8.toNat_inj.1 (by have:=k.toNat_lt;simp)
theorem yhd (a b:List UInt8):(a++b).drop a.length=b:=by simp
theorem pow63:(2:Nat) ^ 63<256 ^ 8:=by decide
theorem yp7 (a x:List UInt8)(n:Nat)(h:n<2 ^ 63):
 rdNum (a++num n++x) a.length=((n:Int),((a.length+(num n).length:Nat):Int),0):=by
 have h8:n<256 ^ 8:=Nat.lt_trans h pow63
 have hl:=ym5 8 n
 unfold rdNum
 rw[if_neg (by simp;omega),Int.toNat_natCast,List.append_assoc,yhd]
 have hk:(UInt8.ofNat (bigs 8 n).length).toNat=(bigs 8 n).length:=by
  simp;omega
 simp only[num,List.cons_append]
 rw[hk,if_neg (by omega),if_neg (by simp)]
 have ht:(bigs 8 n++x).take (bigs 8 n).length=bigs 8 n:=by simp
 rw[ht,yme 8 n h8,if_neg (by
  rintro(h1|h1)
  · exact yrv 8 n h8 h1
  · omega)]
 simp;omega
def total (l:List (List UInt8)):Nat:=(l.map List.length).foldr (· + ·) 0
theorem ylw {left:Nat}{l:List (List UInt8)}{b:List UInt8}(h:listGo left l=some b):
 total l≤left∧b=(l.map text).flatten:=by
 induction l generalizing left b with
 | nil=>simp[listGo]at h;subst h;simp[total]
 | cons s r ih=>
   unfold listGo at h
   split at h
   · simp at h
   · cases hr:listGo (left-s.length) r with
     | none=>rw[hr]at h;simp at h
     | some b'=>
       rw[hr]at h;simp at h
       obtain⟨h1,h2⟩:=ih hr
       subst h2;subst h
       refine⟨?_,by simp⟩
       simp[total]at h1 ⊢;omega
theorem yqt (left:Nat)(l:List (List UInt8))(h:total l≤left):listGo left l=some (l.map text).flatten:=by
 induction l generalizing left with
 | nil=>rfl
 | cons s r ih=>
   simp[total]at h
   unfold listGo
   rw[if_neg (by omega),ih (left-s.length) (by simp[total];omega)]
   simp
theorem yew {s t:List UInt8}{p q e:Int}(h:rdText s p=(t,q,e)):
 (e≠0∧t=[]∧q=0)∨(e=0∧0≤p∧t.length≤65536∧p<q∧q≤s.length∧(s.drop p.toNat).take (q-p).toNat=text t):=by
 unfold rdText at h
 rcases hn:rdNum s p with⟨n,m,f⟩
 rw[hn]at h
 simp only at h
 split at h
 · next hf=>simp only[Prod.mk.injEq]at h;obtain⟨rfl,rfl,rfl⟩:=h;left;exact⟨hf,rfl,rfl⟩
 next hf=>
 split at h
 · simp only[Prod.mk.injEq]at h;obtain⟨rfl,rfl,rfl⟩:=h;left;exact⟨by decide,rfl,rfl⟩
 split at h
 · simp only[Prod.mk.injEq]at h;obtain⟨rfl,rfl,rfl⟩:=h;left;exact⟨by decide,rfl,rfl⟩
 next hb hs=>
 right
 simp only[Prod.mk.injEq]at h
 obtain⟨rfl,rfl,rfl⟩:=h
 rcases yce hn with h1|⟨_,hp,hn0,hn1,hpm,hm,hnum⟩
 · exact absurd h1.1 hf
 have hlen:((s.drop m.toNat).take n.toNat).length=n.toNat:=by simp;omega
 refine⟨rfl,hp,by omega,by omega,by omega,?_⟩
 unfold text
 rw[hlen,←hnum]
 have e1:(m+n-p).toNat=(m-p).toNat+n.toNat:=by omega
 rw[e1,List.take_add,List.drop_drop]
 have e2:p.toNat+(m-p).toNat=m.toNat:=by omega
 rw[e2]
theorem yui {s:List UInt8}{n left:Nat}{q q':Int}{l:List (List UInt8)}(h:rdGo s n left q=.ok (l,q'))(hq0:0≤q)(hq:q≤s.length):
 l.length=n∧total l≤left∧q≤q'∧q'≤s.length∧(s.drop q.toNat).take (q'-q).toNat=(l.map text).flatten:=by
 induction n generalizing left q l q' with
 | zero=>
   simp only[rdGo,Except.ok.injEq,Prod.mk.injEq]at h
   obtain⟨rfl,rfl⟩:=h
   simp[total,hq]
 | succ n ih=>
   unfold rdGo at h
   rcases ht:rdText s q with⟨t,b,e⟩
   rw[ht]at h
   simp only at h
   split at h
   · simp at h
   split at h
   · simp at h
   next he hl=>
   cases hr:rdGo s n (left-t.length) b with
   | error e=>rw[hr]at h;simp at h
   | ok v=>
     obtain⟨r,q2⟩:=v
     rw[hr]at h
     simp only[Except.ok.injEq,Prod.mk.injEq]at h
     obtain⟨rfl,rfl⟩:=h
     rcases yew ht with h1|⟨_,hp,hn0,hqb,hb,htx⟩
     · exact absurd h1.1 he
     obtain⟨i1,i2,i3,i4,i5⟩:=ih hr (by omega) hb
     refine⟨by simp[i1],by simp[total]at i2 ⊢;omega,by omega,i4,?_⟩
     have e1:(q2-q).toNat=(b-q).toNat+(q2-b).toNat:=by omega
     rw[e1,List.take_add,List.drop_drop]
     have e2:q.toNat+(b-q).toNat=b.toNat:=by omega
     rw[e2,htx,i5];simp
theorem yj5 {s:List UInt8}{p q e:Int}{l:List (List UInt8)}(h:rdList s p=(l,q,e)):
 (e≠0∧l=[]∧q=0)∨(e=0∧0≤p∧p≤q∧q≤s.length∧listE l=((s.drop p.toNat).take (q-p).toNat,0)):=by
 unfold rdList at h
 rcases hn:rdNum s p with⟨n,m,f⟩
 rw[hn]at h
 simp only at h
 split at h
 · next hf=>simp only[Prod.mk.injEq]at h;obtain⟨rfl,rfl,rfl⟩:=h;left;exact⟨hf,rfl,rfl⟩
 next hf=>
 rcases yce hn with h1|⟨_,hp,hn0,hn1,hpm,hm,hnum⟩
 · exact absurd h1.1 hf
 split at h
 · simp only[Prod.mk.injEq]at h;obtain⟨rfl,rfl,rfl⟩:=h;left;exact⟨by decide,rfl,rfl⟩
 next hb=>
 cases hr:rdGo s n.toNat 65536 m with
 | error e'=>
   rw[hr]at h
   simp only[Prod.mk.injEq]at h
   obtain⟨rfl,rfl,rfl⟩:=h
   left
   refine⟨?_,rfl,rfl⟩
   suffices H :∀(k left:Nat) (q:Int) (e:Int),rdGo s k left q=.error e→e≠0 from H _ _ _ _ hr
   intro k
   induction k with
   | zero=>intro left q e h;simp[rdGo]at h
   | succ k ih=>
     intro left q e h
     unfold rdGo at h
     rcases ht:rdText s q with⟨t,b,e2⟩
     rw[ht]at h
     simp only at h
     split at h
     · next h3=>simp only[Except.error.injEq]at h;subst h;exact h3
     split at h
     · simp only[Except.error.injEq]at h;subst h;decide
     cases hr2:rdGo s k (left-t.length) b with
     | error e3=>rw[hr2]at h;simp only[Except.error.injEq]at h;subst h;exact ih _ _ _ hr2
     | ok v=>rw[hr2]at h;simp at h
 | ok v=>
   obtain⟨r,q2⟩:=v
   rw[hr]at h
   simp only[Prod.mk.injEq]at h
   obtain⟨rfl,rfl,rfl⟩:=h
   obtain⟨i1,i2,i3,i4,i5⟩:=yui hr (by omega) hm
   right
   refine⟨rfl,hp,by omega,i4,?_⟩
   unfold listE
   rw[if_neg (by omega),yqt _ _ i2]
   simp only[Prod.mk.injEq,and_true]
   have e1:(q2-p).toNat=(m-p).toNat+(q2-m).toNat:=by omega
   have e2:p.toNat+(m-p).toNat=m.toNat:=by omega
   rw[e1,List.take_add,List.drop_drop,e2,hnum,i5,i1]
end Oct
end
section
open Go.RowKit
def numCells (bk:List UInt8):Array Value:=((List.replicate (9-bk.length) (0:UInt8)++bk).map fun b=>Value.int .u8 b.toNat).toArray
theorem ylv (bk:List UInt8)(h:bk.length≤8):(numCells bk)[9-bk.length-1]? = some (Value.int .u8 0):=by
 unfold numCells
 have h1:9-bk.length-1<9-bk.length:=by omega
 simp[List.getElem?_append,h1]
theorem yfl (bk:List UInt8)(h:bk.length≤8)(b:UInt8)(x:Int)(hx:x=b.toNat):(numCells bk).setIfInBounds (9-bk.length-1) (Value.int .u8 x)=numCells (b::bk):=by
 subst hx
 unfold numCells
 have e:9-bk.length=(9-(bk.length+1))+1:=by omega
 have e2:9-bk.length-1=9-(bk.length+1):=by omega
 rw[e2,e]
 simp only[List.length_cons,List.replicate_succ',List.setIfInBounds_toArray,List.map_append,List.map_replicate,List.map_cons,List.map_nil,List.append_assoc]
 rw[List.set_append_right _ _ (by simp)]
 simp
theorem yiz (w:World)(T:TypeId)(bk:List UInt8)(i:Nat)(hi:i<bk.length):
 (w.alloc (.cells (numCells bk) T)).cell? ⟨w.heap.size,9-bk.length+i,none⟩=some (.int .u8 ((bk.map fun b=>(b.toNat:Int)).getD i 0)):=by
 simp only[numCells,go_sem]
 simp[List.getD,hi]
theorem yoa (bk:List UInt8):strOfNums (bk.map fun b=>(b.toNat:Int))=⟨bk.toArray⟩:=by
 unfold strOfNums
 congr 2
 rw[List.map_map]
 conv=>rhs;rw[←List.map_id bk]
 apply List.map_congr_left
 intro b _
 simp
theorem ydh (n:Int)(w:World)(h0:0≤n)(h1:n≤9223372036854775807):
 Calls Tryz.prog 125 #[.int .i64 n] w fun e w'=>e=.returned (.string ⟨(Oct.num n.toNat).toArray⟩)∧Below w.heap.size w w':=by
 go_enter Tryz.func125,Tryz.ntmps125
 go_wp2
 go_loopw [0,4] (fun a b wr =>∃(m:Nat) (bk:List UInt8),a=.int .i64 m∧b=.int .i64 (9-(bk.length:Int))∧bk.length≤8∧m<256 ^ (8-bk.length)∧(m:Int)≤9223372036854775807∧Oct.bigs 8 n.toNat=Oct.bigs (8-bk.length) m++bk∧wr=w.alloc (.cells (numCells bk) 204)) (fun a _ _=>(intOf a).toNat)
 case atStart=>exact⟨n.toNat,[],by rw[Int.toNat_of_nonneg h0],rfl,by simp,by simp;omega,by omega,by simp,rfl⟩
 case round=>
  obtain⟨m,bk,rfl,rfl,hk,hm,hm2,hb,rfl⟩:=hrel
  have Hm:=yh hm;clear hm
  have Hb:=yh hb;clear hb
  have hc:=ylv bk hk
  by_cases hlt:0<m
  · have hl7:bk.length≤7:=by
     have:=Hm.out
     rcases Nat.lt_or_ge bk.length 8 with h|h
     · omega
     · have e:bk.length=8:=by omega
       rw[e]at this;simp at this;omega
    have hs:=yfl bk hk (UInt8.ofNat (m%256)) ((m:Int)%256) (by simp)
    go_wp2
    have hms:=Hm.out
    have hbs:=Hb.out
    have e8:8-bk.length=(8-(bk.length+1))+1:=by omega
    rw[e8]at hms hbs
    refine⟨⟨m / 256,UInt8.ofNat (m%256)::bk,by simp,by simp;omega,by simp;omega,?_,by omega,?_,rfl⟩,?_⟩
    · rw[Nat.div_lt_iff_lt_mul (by decide)]
      rw[Nat.pow_succ]at hms
      simpa using hms
    · rw[hbs,Oct.bigs,if_neg (by omega)]
      simp
    · simp[intOf];omega
  · obtain rfl:m=0:=by omega
    have hs:=yfl bk hk (UInt8.ofNat bk.length) (8-(9-(bk.length:Int)-1)) (by simp;omega)
    have hsl :∀w',(Instr.sliceAt 204 (.pointer (some ⟨w.heap.size,0,none⟩)) (some (.int .i64 (9-(bk.length:Int)-1))) none none).run Tryz.prog w'=.ok (.slice (some ⟨w.heap.size,8-bk.length,none⟩) (bk.length+1) (bk.length+1)) w':=by
     intro w'
     have e9:Tryz.prog.arrayLen 204=9:=by kernel_rfl
     rw[run_sliceAt_array_l w' 204 _ (by kernel_rfl) .i64 _ (by omega) (by rw[e9];omega),e9]
     have es:(sizeOf (Tryz.prog.elem 204)).run Tryz.prog w'=.ok 1 w':=by kernel_rfl
     rw[es]
     have e0:(9-(bk.length:Int)-1).toNat=8-bk.length:=by omega
     simp only[Result.andThen,slicedAt,e0,Addr.add]
     rw[if_neg (by omega)]
     simp;omega
    have hcv:(convert 85 9 (.slice (some ⟨w.heap.size,8-bk.length,none⟩) (bk.length+1) (bk.length+1))).run Tryz.prog (w.alloc (.cells (numCells (UInt8.ofNat bk.length::bk)) 204))=.ok (.string ⟨(UInt8.ofNat bk.length::bk).toArray⟩) (w.alloc (.cells (numCells (UInt8.ofNat bk.length::bk)) 204)):=by
     rw[←yoa]
     exact run_convert_bytes_arg _ _ 5 Tryz.underlying85 Tryz.underlying5 _ _ _ _ _ (by simp) (fun i hi=>by
      have:=yiz w 204 (UInt8.ofNat bk.length::bk) i (by simpa using hi)
      rwa[show 9-(UInt8.ofNat bk.length::bk).length=8-bk.length from by simp]at this) _ Tryz.underlying9
    go_wp2
    go_ret
    have hbs:=Hb.out
    have hnum:Oct.num n.toNat=UInt8.ofNat bk.length::bk:=by
     have e:Oct.bigs (8-bk.length) 0=[]:=by cases (8-bk.length) <;> simp[Oct.bigs]
     unfold Oct.num
     rw[hbs,e];simp
    rw[hnum]
    exact⟨rfl,(Below.refl _ _).alloc (Nat.le_refl _) _⟩
end
section
namespace Oct
theorem ypa (l:List UInt8)(a:Nat):l.foldl (fun a b=>a*256+b.toNat) a=a*256 ^ l.length+val l:=by
 induction l generalizing a with
 | nil=>simp[val]
 | cons b r ih=>
   rw[List.foldl_cons,ih]
   have e:val (b::r)=b.toNat*256 ^ r.length+val r:=by
    show List.foldl _ (0*256+b.toNat) r=_
    rw[ih];simp
   rw[e,List.length_cons,Nat.pow_succ,Nat.add_mul,Nat.mul_assoc,Nat.mul_comm 256,Nat.add_assoc]
theorem ysc (b:UInt8)(r:List UInt8):val (b::r)=b.toNat*256 ^ r.length+val r:=by
 show List.foldl _ (0*256+b.toNat) r=_
 rw[ypa];simp
theorem yih (s:ByteArray)(p:Nat)(hp:p<s.size):s.data.toList.drop p=s[p]::s.data.toList.drop (p+1):=by
 rw[List.drop_eq_getElem_cons (by simpa using hp)];rfl
theorem ya9 (s:ByteArray):s.data.toList.length=s.size:=rfl
def own (s:ByteArray)(p k:Nat):List UInt8:=(s.data.toList.drop (p+1)).take k
theorem yfw (s:ByteArray)(p j:Nat)(h:p+1+j<s.size):own s p (j+1)=own s p j ++ [s[p+1+j]]:=by
 unfold own
 rw[List.take_succ_eq_append_getElem (by rw[List.length_drop,ya9];omega)]
 simp;rfl
theorem yqe (s:ByteArray)(p k:Nat)(h:p+1+k≤s.size):(own s p k).length=k:=by
 unfold own
 rw[List.length_take,List.length_drop,ya9];omega
theorem yms (s:ByteArray)(p k:Nat)(h:p+1+k≤s.size)(hk:0<k):own s p k=s[p+1]'(by omega)::(s.data.toList.drop (p+2)).take (k-1):=by
 unfold own
 obtain⟨j,rfl⟩ :∃j,k=j+1:=⟨k-1,by omega⟩
 rw[yih s (p+1) (by omega)]
 simp
theorem yh2 (s:ByteArray)(p j k:Nat)(hj:j≤k)(h:p+1+k≤s.size):val (own s p j)≤val (own s p k):=by
 induction k with
 | zero => have : j = 0 := by omega
           subst this;exact Nat.le_refl _
 | succ k ih=>
   rcases Nat.lt_or_ge j (k+1)with h1|h1
   · have:=ih (by omega) (by omega)
     rw[yfw s p k (by omega),ydn];omega
   · have:j=k+1:=by omega
     subst this;exact Nat.le_refl _
theorem yj2 (l:List UInt8)(p:Int)(h:p<0∨(l.length:Int)<p):rdNum l p=(0,0,4):=by
 unfold rdNum;rw[if_pos h]
theorem yj3 (s:ByteArray):rdNum s.data.toList s.size=(0,0,5):=by
 unfold rdNum
 rw[ya9,if_neg (by omega),Int.toNat_natCast,List.drop_of_length_le (by rw[ya9];omega)]
theorem yfv (s:ByteArray)(p:Nat)(hp:p<s.size):rdNum s.data.toList p =
 if 8<s[p].toNat then (0,0,6) else
 if s.size<p+1+s[p].toNat then (0,0,5) else
 if (own s p s[p].toNat).head? = some 0 ∨ 2 ^ 63 ≤ val (own s p s[p].toNat) then (0, 0, 6) else
     (((val (own s p s[p].toNat):Nat):Int),(p:Int)+1+((s[p].toNat:Nat):Int),(0:Int)):=by
 unfold rdNum
 rw[ya9,if_neg (by omega),Int.toNat_natCast,yih s p hp]
 simp only
 by_cases h8:8<s[p].toNat
 · rw[if_pos h8,if_pos h8]
 rw[if_neg h8,if_neg h8]
 have e:(s.data.toList.drop (p+1)).length=s.size-(p+1):=by rw[List.length_drop,ya9]
 rw[e]
 by_cases h9:s.size<p+1+s[p].toNat
 · rw[if_pos h9,if_pos (by omega)]
 · rw[if_neg h9,if_neg (by omega)];rfl
theorem yj4 (s:ByteArray)(p:Nat)(hp:p<s.size)(h:8<s[p].toNat):rdNum s.data.toList p=(0,0,6):=by
 rw[yfv s p hp,if_pos h]
theorem ygs (s:ByteArray)(p:Nat)(hp:p<s.size)(h:s[p].toNat≤8)(h2:s.size<p+1+s[p].toNat):rdNum s.data.toList p=(0,0,5):=by
 rw[yfv s p hp,if_neg (by omega),if_pos h2]
theorem ygt (s:ByteArray)(p:Nat)(hp:p<s.size)(h:s[p].toNat≤8)(h2:p+1+s[p].toNat≤s.size)
 (h3:(own s p s[p].toNat).head? = some 0∨2 ^ 63≤val (own s p s[p].toNat)):rdNum s.data.toList p=(0,0,6):=by
 rw[yfv s p hp,if_neg (by omega),if_neg (by omega),if_pos h3]
theorem yhz (s:ByteArray)(p:Nat)(hp:p<s.size)(h:s[p].toNat≤8)(h2:p+1+s[p].toNat≤s.size)
 (h3 :¬((own s p s[p].toNat).head? = some 0∨2 ^ 63≤val (own s p s[p].toNat))):rdNum s.data.toList p=(((val (own s p s[p].toNat):Nat):Int),(p:Int)+1+((s[p].toNat:Nat):Int),(0:Int)):=by
 rw[yfv s p hp,if_neg (by omega),if_neg (by omega),if_neg h3]
theorem ye3 (s:ByteArray)(p k:Nat)(h:p+1+k≤s.size)(hk:0<k):((own s p k).head? = some 0)↔(s[p+1]'(by omega)).toNat=0:=by
 rw[yms s p k h hk]
 simp only[List.head?_cons,Option.some.injEq]
 constructor
 · intro e;rw[e];rfl
 · intro e;exact UInt8.toNat_inj.1 (by simpa using e)
theorem ymq (s:ByteArray)(p:Nat):own s p 0=[]:=rfl
theorem yjo (s:ByteArray)(p k:Nat)(hk:k≤7)(h:p+1+k≤s.size):val (own s p k)<2 ^ 63:=by
 have h1:=yo9 (own s p k)
 rw[yqe s p k h]at h1
 have h2:256 ^ k≤256 ^ 7:=Nat.pow_le_pow_right (by decide) hk
 have h3:(256:Nat) ^ 7<2 ^ 63:=by decide
 omega
theorem yo7 (s:ByteArray)(p:Nat)(h:p+1+8≤s.size):2 ^ 63≤val (own s p 8)↔127<(s[p+1]'(by omega)).toNat:=by
 have e:=yms s p 8 h (by omega)
 have hl:((s.data.toList.drop (p+2)).take (8-1)).length=7:=by rw[List.length_take,List.length_drop,ya9];omega
 have hr:=yo9 ((s.data.toList.drop (p+2)).take (8-1))
 rw[hl]at hr
 rw[e,ysc,hl]
 generalize val ((s.data.toList.drop (p+2)).take (8-1))=v at *
 generalize (s[p+1]'(by omega)).toNat=b
 have e7:(256:Nat) ^ 7=72057594037927936:=by decide
 have e63:(2:Nat) ^ 63=128*72057594037927936:=by decide
 rw[e7]at *;rw[e63]
 omega
theorem yun (m b:Nat)(h:b<256):(m*256) ||| b=m*256+b:=by
 have:=Nat.shiftLeft_add_eq_or_of_lt (i:=8) (b:=b) (by simpa using h) m
 rw[Nat.shiftLeft_eq]at this
 exact this.symm
end Oct
end
section
open Go.RowKit
def three (a b c:Int):Value:=.tuple #[.int .i64 a,.int .i64 b,.int .i64 c]
def rdNumV (s:ByteArray)(p:Int):Value:=three (Oct.rdNum s.data.toList p).1 (Oct.rdNum s.data.toList p).2.1 (Oct.rdNum s.data.toList p).2.2
theorem yhn (s:ByteArray)(p:Int)(w:World)(hs:s.size≤9223372036854775807)(h:p<0∨(s.size:Int)<p):
 Calls Tryz.prog 81 #[.string s,.int .i64 p] w fun e w'=>e=.returned (three 0 0 4)∧w=w':=by
 by_cases h0:p<0
 · have hd:decide (p<0)=true:=by simpa using h0
   go_enter Tryz.func81,Tryz.ntmps81
   go_wp2
   go_ret3
   exact⟨rfl,rfl⟩
 · have hd:decide (p<0)=false:=by simpa using h0
   have h1:(s.size:Int)<p:=by omega
   have hd1:decide ((s.size:Int)<p)=true:=by simpa using h1
   go_enter Tryz.func81,Tryz.ntmps81
   go_wp2
   go_ret3
   exact⟨rfl,rfl⟩
theorem yho (s:ByteArray)(w:World)(hs:s.size≤9223372036854775807):
 Calls Tryz.prog 81 #[.string s,.int .i64 s.size] w fun e w'=>e=.returned (three 0 0 5)∧w=w':=by
 go_enter Tryz.func81,Tryz.ntmps81
 go_wp2
 go_ret3
 exact⟨rfl,rfl⟩
theorem yc4 (b:UInt8):(b.toNat:Int)≤255:=by have:=b.toNat_lt;omega
theorem yhp (s:ByteArray)(p:Nat)(w:World)(hs:s.size≤9223372036854775807)(hp:p<s.size)(hk:8<s[p].toNat):
 Calls Tryz.prog 81 #[.string s,.int .i64 p] w fun e w'=>e=.returned (three 0 0 6)∧w=w':=by
 have hd:decide ((p:Int)<0)=false:=by simp
 have hd1:decide (s.size<p)=false:=by simp;omega
 have hd2:((p:Int) == (s.size:Int))=false:=by simp;omega
 have hb:=yc4 s[p]
 have hd3:decide ((8:Int)<(s[p].toNat:Int))=true:=by simp;omega
 go_enter Tryz.func81,Tryz.ntmps81
 go_wp2
 go_ret3
 exact⟨rfl,rfl⟩
theorem yfr (s:ByteArray)(p:Nat)(w:World)(hs:s.size≤9223372036854775807)(hp:p<s.size)(hk:s[p].toNat≤8)(hk2:s.size<p+1+s[p].toNat):
 Calls Tryz.prog 81 #[.string s,.int .i64 p] w fun e w'=>e=.returned (three 0 0 5)∧w=w':=by
 have hd:decide ((p:Int)<0)=false:=by simp
 have hd1:decide (s.size<p)=false:=by simp;omega
 have hd2:((p:Int) == (s.size:Int))=false:=by simp;omega
 have hb:=yc4 s[p]
 have hd3:decide ((8:Int)<(s[p].toNat:Int))=false:=by simp;omega
 have hd4:decide ((s.size:Int)-((p:Int)+1)<(s[p].toNat:Int))=true:=by simp;omega
 go_enter Tryz.func81,Tryz.ntmps81
 go_wp2
 go_ret3
 exact⟨rfl,rfl⟩
theorem ygq (s:ByteArray)(p:Nat)(w:World)(hs:s.size≤9223372036854775807)(hp:p<s.size)(hk:s[p].toNat≤8)(hk2:p+1+s[p].toNat≤s.size)
 (hk3:0<s[p].toNat) (h0:s[p+1].toNat=0):
 Calls Tryz.prog 81 #[.string s,.int .i64 p] w fun e w'=>e=.returned (three 0 0 6)∧w=w':=by
 have hd:decide ((p:Int)<0)=false:=by simp
 have hd1:decide (s.size<p)=false:=by simp;omega
 have hd2:((p:Int) == (s.size:Int))=false:=by simp;omega
 have hb:=yc4 s[p]
 have hd3:decide ((8:Int)<(s[p].toNat:Int))=false:=by simp;omega
 have hd4:decide ((s.size:Int)-((p:Int)+1)<(s[p].toNat:Int))=false:=by simp;omega
 have hd5:decide ((0:Int)<(s[p].toNat:Int))=true:=by simp;omega
 have hd6:decide (0<s[p].toNat)=true:=by simp;omega
 have hd7:((s[p+1].toNat:Int) == 0)=true:=by simp[h0]
 have hp1:p+1<s.size:=by omega
 have hp2:(p:Int)+1<s.size:=by omega
 have H0:=yh h0;clear h0
 go_enter Tryz.func81,Tryz.ntmps81
 go_wp2
 go_ret3
 exact⟨rfl,rfl⟩
theorem yhm (s:ByteArray)(p:Nat)(w:World)(hs:s.size≤9223372036854775807)(hp:p<s.size)(hk:s[p].toNat≤8)(hk':8≤s[p].toNat)(hk2:p+1+s[p].toNat≤s.size)
 (h0:127<s[p+1].toNat):
 Calls Tryz.prog 81 #[.string s,.int .i64 p] w fun e w'=>e=.returned (three 0 0 6)∧w=w':=by
 have hd:decide ((p:Int)<0)=false:=by simp
 have hd1:decide (s.size<p)=false:=by simp;omega
 have hd2:((p:Int) == (s.size:Int))=false:=by simp;omega
 have hb:=yc4 s[p]
 have hd3:decide ((8:Int)<(s[p].toNat:Int))=false:=by simp;omega
 have hd4:decide ((s.size:Int)-((p:Int)+1)<(s[p].toNat:Int))=false:=by simp;omega
 have hd5:decide ((0:Int)<(s[p].toNat:Int))=true:=by simp;omega
 have hd6:decide (0<s[p].toNat)=true:=by simp;omega
 have hd7:((s[p+1].toNat:Int) == 0)=false:=by simp;omega
 have hd8:((s[p].toNat:Int) == 8)=true:=by simp;omega
 have hd9:decide ((127:Int)<(s[p+1].toNat:Int))=true:=by simp;omega
 have hp1:p+1<s.size:=by omega
 have hp2:(p:Int)+1<s.size:=by omega
 go_enter Tryz.func81,Tryz.ntmps81
 go_wp2
 go_ret3
 exact⟨rfl,rfl⟩
theorem yep (a:Nat)(ha:a≤9223372036854775807):(BitVec.ofInt 64 (a:Int)).toNat=a:=by
 simp only[BitVec.ofInt_natCast,BitVec.toNat_ofNat]
 exact Nat.mod_eq_of_lt (by omega)
theorem yt0 (m b:Nat)(hb:b<256)(hm:m*256+b≤9223372036854775807):bits .or .i64 ((m:Int)*256) (b:Int)=((m*256+b:Nat):Int):=by
 have h1:m*256≤9223372036854775807:=Nat.le_trans (Nat.le_add_right _ _) hm
 have h2:b≤9223372036854775807:=Nat.le_trans (Nat.le_add_left _ _) hm
 have e:(m:Int)*256=((m*256:Nat):Int):=by omega
 rw[e]
 show IntKind.i64.wrap ((BitVec.ofInt 64 ((m*256:Nat):Int) ||| BitVec.ofInt 64 (b:Int)).toNat:Int)=_
 rw[BitVec.toNat_or,yep (m*256) h1,yep b h2,Oct.yun m b hb,IntKind.wrap_i64]
 omega
theorem ydj (s:ByteArray)(p:Nat)(h:p<s.size):s.data.toList.getD p 0=s[p]:=by
 have h':p<s.data.toList.length:=by simpa using h
 rw[List.getD_eq_getElem?_getD,List.getElem?_eq_getElem h',Option.getD_some];rfl
theorem ygr (s:ByteArray)(p:Nat)(w:World)(hs:s.size≤9223372036854775807)(hp:p<s.size)(hk:s[p].toNat≤8)(hk2:p+1+s[p].toNat≤s.size)
 (h1:(0<s[p].toNat)→0<(s.data.toList.getD (p+1) 0).toNat) (h2:s[p].toNat=8→(s.data.toList.getD (p+1) 0).toNat≤127) (hv:Oct.val (Oct.own s p s[p].toNat)<2 ^ 63):
 Calls Tryz.prog 81 #[.string s,.int .i64 p] w fun e w'=>e=.returned (three (Oct.val (Oct.own s p s[p].toNat)) (p+1+s[p].toNat) 0)∧w=w':=by
 have hd:decide ((p:Int)<0)=false:=by simp
 have hd1:decide (s.size<p)=false:=by simp;omega
 have hd2:((p:Int) == (s.size:Int))=false:=by simp;omega
 have hb:=yc4 s[p]
 have hd3:decide ((8:Int)<(s[p].toNat:Int))=false:=by simp;omega
 have hd4:decide ((s.size:Int)-((p:Int)+1)<(s[p].toNat:Int))=false:=by simp;omega
 have Hv:=yh hv;clear hv
 by_cases hk0:0<s[p].toNat
 · have hp1:p+1<s.size:=by omega
   have hp2:(p:Int)+1<s.size:=by omega
   have eg:=ydj s (p+1) hp1
   rw[eg]at h1 h2
   have h1':=h1 hk0
   have hd5:decide ((0:Int)<(s[p].toNat:Int))=true:=by simp;omega
   have hd6:decide (0<s[p].toNat)=true:=by simp;omega
   have hd7:((s[p+1].toNat:Int) == 0)=false:=by simp;omega
   clear eg h1
   by_cases hk8:8≤s[p].toNat
   · have hd8:((s[p].toNat:Int) == 8)=true:=by simp;omega
     have h2':=h2 (by omega)
     have hd9:decide ((127:Int)<(s[p+1].toNat:Int))=false:=by simp;omega
     clear h2
     go_enter Tryz.func81,Tryz.ntmps81
     go_wp2
     go_loop [8,55] (fun n c =>∃j:Nat,j≤s[p].toNat∧c=.int .i64 j∧n=.int .i64 (Oct.val (Oct.own s p j))) (fun _ c=>s[p].toNat-(intOf c).toNat)
     case atStart=>exact⟨0,by omega,rfl,rfl⟩
     case round=>
      obtain⟨j,hj,rfl,rfl⟩:=hrel
      by_cases hlt:j<s[p].toNat
      · have hsn:=Oct.yfw s p j (by omega)
        have hle:=Oct.yh2 s p (j+1) s[p].toNat (by omega) (by omega)
        have hvs:Oct.val (Oct.own s p (j+1))=Oct.val (Oct.own s p j)*256+(s[p+1+j]'(by omega)).toNat:=by rw[hsn,Oct.ydn]
        have hvv:=Hv.out
        have hor:=yt0 (Oct.val (Oct.own s p j)) (s[p+1+j]'(by omega)).toNat (by have:=(s[p+1+j]'(by omega)).toNat_lt;omega) (by omega)
        have hb2:=yc4 (s[p+1+j]'(by omega))
        have hb3:(Oct.val (Oct.own s p j):Int)*256≤9223372036854775807:=by omega
        rw[←hvs]at hor
        have Hor:=yh hor
        clear hor hvs hsn hle hvv
        go_wp2
        go_round
        case rel=>exact⟨j+1,by omega,by go_num,by rw[Hor.out]⟩
        case measure=>simp[intOf];omega
      · have ej:j=s[p].toNat:=by omega
        have Ej:=yh ej;clear ej
        go_wp2
        go_ret3
        rw[Ej.out]
        exact⟨rfl,rfl⟩
   · have hd8:((s[p].toNat:Int) == 8)=false:=by simp;omega
     clear h2
     go_enter Tryz.func81,Tryz.ntmps81
     go_wp2
     go_loop [8,55] (fun n c =>∃j:Nat,j≤s[p].toNat∧c=.int .i64 j∧n=.int .i64 (Oct.val (Oct.own s p j))) (fun _ c=>s[p].toNat-(intOf c).toNat)
     case atStart=>exact⟨0,by omega,rfl,rfl⟩
     case round=>
      obtain⟨j,hj,rfl,rfl⟩:=hrel
      by_cases hlt:j<s[p].toNat
      · have hsn:=Oct.yfw s p j (by omega)
        have hle:=Oct.yh2 s p (j+1) s[p].toNat (by omega) (by omega)
        have hvs:Oct.val (Oct.own s p (j+1))=Oct.val (Oct.own s p j)*256+(s[p+1+j]'(by omega)).toNat:=by rw[hsn,Oct.ydn]
        have hvv:=Hv.out
        have hor:=yt0 (Oct.val (Oct.own s p j)) (s[p+1+j]'(by omega)).toNat (by have:=(s[p+1+j]'(by omega)).toNat_lt;omega) (by omega)
        have hb2:=yc4 (s[p+1+j]'(by omega))
        have hb3:(Oct.val (Oct.own s p j):Int)*256≤9223372036854775807:=by omega
        rw[←hvs]at hor
        have Hor:=yh hor
        clear hor hvs hsn hle hvv
        go_wp2
        go_round
        case rel=>exact⟨j+1,by omega,by go_num,by rw[Hor.out]⟩
        case measure=>simp[intOf];omega
      · have ej:j=s[p].toNat:=by omega
        have Ej:=yh ej;clear ej
        go_wp2
        go_ret3
        rw[Ej.out]
        exact⟨rfl,rfl⟩
 · have hk8:s[p].toNat≤0:=by omega
   have hd5:decide ((0:Int)<(s[p].toNat:Int))=false:=by simp;omega
   have hd6:decide (0<s[p].toNat)=false:=by simp;omega
   have hd8:((s[p].toNat:Int) == 8)=false:=by simp;omega
   clear h1 h2
   go_enter Tryz.func81,Tryz.ntmps81
   go_wp2
   go_loop [8,55] (fun n c =>∃j:Nat,j≤s[p].toNat∧c=.int .i64 j∧n=.int .i64 (Oct.val (Oct.own s p j))) (fun _ c=>s[p].toNat-(intOf c).toNat)
   case atStart=>exact⟨0,by omega,rfl,rfl⟩
   case round=>
    obtain⟨j,hj,rfl,rfl⟩:=hrel
    by_cases hlt:j<s[p].toNat
    · omega
    · have ej:j=s[p].toNat:=by omega
      have Ej:=yh ej;clear ej
      go_wp2
      go_ret3
      rw[Ej.out]
      exact⟨rfl,rfl⟩
theorem ya5 (s:ByteArray)(p:Int)(w:World)(hs:s.size≤9223372036854775807):
 Calls Tryz.prog 81 #[.string s,.int .i64 p] w fun e w'=>e=.returned (rdNumV s p)∧w=w':=by
 have hl:=Oct.ya9 s
 unfold rdNumV
 by_cases h0:p<0∨(s.size:Int)<p
 · rw[Oct.yj2 _ _ (by rw[hl];exact h0)]
   exact yhn s p w hs h0
 obtain⟨k,rfl⟩:=Int.eq_ofNat_of_zero_le (show 0≤p by omega)
 by_cases h1:k=s.size
 · subst h1
   rw[Oct.yj3]
   exact yho s w hs
 have hp:k<s.size:=by omega
 by_cases h2:8<s[k].toNat
 · rw[Oct.yj4 s k hp h2]
   exact yhp s k w hs hp h2
 by_cases h3:s.size<k+1+s[k].toNat
 · rw[Oct.ygs s k hp (by omega) h3]
   exact yfr s k w hs hp (by omega) h3
 by_cases h4:(0<s[k].toNat)∧(s.data.toList.getD (k+1) 0).toNat=0
 · have e:=ydj s (k+1) (by omega)
   rw[e]at h4
   rw[Oct.ygt s k hp (by omega) (by omega) (.inl ((Oct.ye3 s k _ (by omega) h4.1).2 h4.2))]
   exact ygq s k w hs hp (by omega) (by omega) h4.1 h4.2
 by_cases h5:s[k].toNat=8∧127<(s.data.toList.getD (k+1) 0).toNat
 · have e:=ydj s (k+1) (by omega)
   rw[e]at h5 h4
   have h6:=(Oct.yo7 s k (by omega)).2 h5.2
   rw[Oct.ygt s k hp (by omega) (by omega) (.inr (by rw[h5.1];exact h6))]
   exact yhm s k w hs hp (by omega) (by omega) (by omega) h5.2
 have hv:Oct.val (Oct.own s k s[k].toNat)<2 ^ 63:=by
  rcases Nat.lt_or_ge s[k].toNat 8 with h|h
  · exact Oct.yjo s k _ (by omega) (by omega)
  · have e8:s[k].toNat=8:=by omega
    have e:=ydj s (k+1) (by omega)
    rw[e8]
    rcases Nat.lt_or_ge (Oct.val (Oct.own s k 8)) (2 ^ 63)with h9|h9
    · exact h9
    · exact absurd ⟨e8,by rw[e];exact(Oct.yo7 s k (by omega)).1 h9⟩ h5
 have hf:=Oct.yhz s k hp (by omega) (by omega) (by
  rintro(h|h)
  · rcases Nat.eq_zero_or_pos s[k].toNat with h7|h7
    · rw[h7,Oct.ymq]at h;simp at h
    · refine h4 ⟨h7,?_⟩
      have e:=ydj s (k+1) (by omega)
      rw[e];exact(Oct.ye3 s k _ (by omega) h7).1 h
  · omega)
 rw[hf]
 exact ygr s k w hs hp (by omega) (by omega) (fun h=>by
  rcases Nat.eq_zero_or_pos (s.data.toList.getD (k+1) 0).toNat with h7|h7
  · exact absurd ⟨h,h7⟩ h4
  · exact h7) (fun h=>by
  rcases Nat.lt_or_ge 127 (s.data.toList.getD (k+1) 0).toNat with h7|h7
  · exact absurd ⟨h,h7⟩ h5
  · exact h7) hv
end
section
open Go.RowKit
abbrev S (l:List UInt8):Value:=.string ⟨l.toArray⟩
def Texts (w:World)(B:Nat)(A:Option Addr)(L:List (List UInt8)):Prop:=
 L≠[]→∃b off,A=some ⟨b,off,none⟩∧b<B∧∀i (h:i<L.length),w.cell? ⟨b,off+i,none⟩=some (S L[i])
def sumTo (L:List (List UInt8))(k:Nat):Nat:=((L.take k).flatten).length
theorem ygg (L:List (List UInt8))(k:Nat)(h:k<L.length):(L.take (k+1)).flatten=(L.take k).flatten++L[k]:=by
 rw[List.take_succ_eq_append_getElem h];simp only[List.flatten_append,List.flatten_cons,List.flatten_nil,List.append_nil]
theorem yhs (L:List (List UInt8))(k:Nat)(h:k<L.length):sumTo L (k+1)=sumTo L k+L[k].length:=by
 unfold sumTo;rw[ygg L k h];simp
theorem yft (L:List (List UInt8))(k:Nat):sumTo L k≤L.flatten.length:=by
 unfold sumTo
 have h:L.flatten=(L.take k).flatten++(L.drop k).flatten:=by rw[←List.flatten_append,List.take_append_drop]
 rw[h];simp
theorem ypl (L:List (List UInt8))(k:Nat)(h:L.length≤k):sumTo L k=L.flatten.length:=by
 unfold sumTo;rw[List.take_of_length_le h]
def rowOf (l:List UInt8)(n:Nat):Array Value:=(Lib.byteCells (l++List.replicate (n-l.length) 0)).toArray
theorem ylb (n:Nat):madeCells (Value.int .u8 0).cells (n*1)=rowOf [] n:=by
 unfold rowOf madeCells
 apply Array.ext
 · simp[Lib.byteCells]
 · intro i h1 h2
   simp[Lib.byteCells,Value.cells,Nat.mod_one]
theorem ynn (l t:List UInt8)(n:Nat)(h:l.length+t.length≤n):
 ((rowOf l n).toList.take l.length++Lib.byteCells t++(rowOf l n).toList.drop (l.length+t.length)).toArray=rowOf (l++t) n:=by
 unfold rowOf
 congr 1
 simp only[Lib.byteCells,List.map_append,List.map_replicate]
 rw[List.take_append_of_le_length (by simp),List.take_of_length_le (by simp),List.drop_append,List.drop_of_length_le (by simp)]
 simp
 omega
theorem ynl (l:List UInt8)(n:Nat)(h:l.length≤n):(rowOf l n).size=n:=by
 unfold rowOf;simp[Lib.byteCells];omega
theorem ynm (l:List UInt8):rowOf l l.length=(Lib.byteCells l).toArray:=by
 unfold rowOf;simp
theorem yno (l:List UInt8)(i:Nat)(h:i<l.length):(rowOf l l.length)[i]? = some (.int .u8 ((l.map fun b=>(b.toNat:Int)).getD i 0)):=by
 rw[ynm]
 simp[Lib.byteCells,List.getD,h]
theorem ytk (bk:List UInt8):strOfNums (bk.map fun b=>(b.toNat:Int))=⟨bk.toArray⟩:=by
 unfold strOfNums
 congr 2
 rw[List.map_map]
 conv=>rhs;rw[←List.map_id bk]
 apply List.map_congr_left
 intro b _
 simp
theorem yip:(Tryz.prog.info? 5).map (fun i=>(i.zero,i.size,i.bytes))=some (some (.int .u8 0),1,1):=by kernel_rfl
theorem ygz (A:Option Addr)(c:Nat)(L:List (List UInt8))(w:World)(hr:Texts w w.heap.size A L)(hl:L.length≤9223372036854775807)(ht:L.flatten.length≤281474976710656):
 Calls Tryz.prog 131 #[.slice A L.length c] w fun e w'=>e=.returned (S L.flatten)∧Below w.heap.size w w':=by
 obtain⟨i0,hi,hz0,hz1,hz2⟩:=info_parts yip
 have Hi:=yh hi;clear hi
 have Hz0:=yh hz0;clear hz0
 have Hz1:=yh hz1;clear hz1
 have Hz2:=yh hz2;clear hz2
 go_enter Tryz.func131,Tryz.ntmps131
 go_wp2
 go_loop [3,12] (fun n i =>∃k:Nat,k≤L.length∧i=.int .i64 k∧n=.int .i64 (sumTo L k)) (fun _ i=>L.length-(intOf i).toNat)
 case atStart=>exact⟨0,by omega,rfl,rfl⟩
 case round=>
  obtain⟨k,hk,rfl,rfl⟩:=hrel
  by_cases hlt:k<L.length
  · obtain⟨b,off,rfl,hb,hc⟩:=hr (by rintro rfl;simp at hlt)
    have hck:=hc k hlt
    have hlk:=yft L (k+1)
    have hs:=yhs L k hlt
    have hsum:(sumTo L k:Int)+(L[k].length:Int)≤281474976710656:=by omega
    have Hs:=yh hs
    clear hc hlk hs
    go_wp2
    go_round
    case rel=>exact⟨k+1,by omega,by go_num,by rw[Hs.out];go_num⟩
    case measure=>simp[intOf];omega
  · have hmk :∀W:World,(Instr.makeSlice 85 (.int .i64 (sumTo L k:Int)) (.int .i64 (sumTo L k:Int))).run Tryz.prog W=.ok (.slice (some ⟨W.heap.size,0,none⟩) (sumTo L k) (sumTo L k)) (W.alloc (.cells (rowOf [] (sumTo L k)) 5)):=by
     intro W
     have h1:=yft L k
     have hr:=run_make (P:=Tryz.prog) W 85 5 i0 _ Tryz.underlying85 Hi.out Hz0.out .i64 .i64 (sumTo L k) (sumTo L k) (by omega) (by omega) (by rw[Hz2.out];omega) (by omega)
     rw[Hz1.out,Int.toNat_natCast,ylb]at hr
     exact hr
    obtain rfl:k=L.length:=by omega
    go_wp2
    clear hmk
    obtain⟨N,hN⟩ :∃N,N=sumTo L L.length:=⟨_,rfl⟩
    rw[←hN]
    rw[ypl L L.length (Nat.le_refl _)]at hN
    have HN:=yh hN
    clear hN
    go_loopw [7,25] (fun at_ i wr =>∃k:Nat,k≤L.length∧i=.int .i64 k∧at_=.int .i64 (sumTo L k)∧wr.heap[w.heap.size]? = some (.cells (rowOf (L.take k).flatten N) 5 (0,0))∧Below w.heap.size w wr) (fun _ i _=>L.length-(intOf i).toNat)
    case atStart=>exact⟨0,by omega,rfl,rfl,by rw[List.take_zero];exact heap_alloc_new w _,(Below.refl _ _).alloc (Nat.le_refl _) _⟩
    case round=>
     obtain⟨k,hk,rfl,rfl,hg,hb⟩:=hrel
     by_cases hlt:k<L.length
     · obtain⟨b,off,rfl,hbb,hc⟩:=hr (by rintro rfl;simp at hlt)
       have hck:=(hb.cell (p:=⟨b,off+k,none⟩) hbb).trans (hc k hlt)
       clear hc
       have hlk1:=yft L k
       have hlk2:=yft L (k+1)
       have hs:=yhs L k hlt
       have hn:=HN.out
       have hle1:(sumTo L k:Int)≤N:=by omega
       have hle2:(sumTo L k:Int)+(L[k].length:Int)≤N:=by omega
       have hle3:(N:Int)≤281474976710656:=by omega
       have Hs:=yh hs
       have Hg:=yh hg
       clear hs hn hg hlk1 hlk2
       by_cases hNk:N=sumTo L k
       · subst hNk
         have h0:L[k].length=0:=by omega
         have hcp:(Builtin.copy_ #[85,9] 3 #[.slice (some ⟨w.heap.size,0,none⟩) 0 0,S L[k]]).run Tryz.prog wr=.ok (.int .i64 0) wr:=
          Lib.run_copy_empty_string wr _ _ _ 5 _ _ _ _ Tryz.underlying85 (by kernel_rfl) (show L[k].length=0 from h0)
         have Hn:=yh h0
         clear h0
         go_wp2
         go_roundw
         case rel=>exact⟨k+1,by omega,by go_num,by rw[Hs.out,Hn.out,Nat.add_zero],by rw[ygg L k hlt,List.eq_nil_of_length_eq_zero Hn.out,List.append_nil];exact Hg.out,hb⟩
         case measure=>simp[intOf];omega
       · have hcp:(Builtin.copy_ #[85,9] 3 #[.slice (some ⟨w.heap.size,sumTo L k,none⟩) (N-sumTo L k) (N-sumTo L k),S L[k]]).run Tryz.prog wr=.ok (.int .i64 L[k].length) (wr.setRow w.heap.size (rowOf (L.take (k+1)).flatten N)):=by
          have hsz:(⟨L[k].toArray⟩:ByteArray).size=L[k].length:=rfl
          have hc:=Lib.run_copy_row_string (P:=Tryz.prog) wr 85 9 3 5 w.heap.size (sumTo L k) (N-sumTo L k) (N-sumTo L k) ⟨L[k].toArray⟩ _ _ Tryz.underlying85 (by kernel_rfl) Hg.out (by rw[hsz];omega) (by rw[hsz,ynl _ _ (by show sumTo L k≤N;omega)];omega)
          have e:=ynn (L.take k).flatten L[k] N (by show sumTo L k+_≤N;omega)
          rw[←ygg L k hlt]at e
          rw[hsz]at hc
          rw[←e]
          exact hc
         have Hn:=yh hNk
         go_wp2
         go_roundw
         case rel=>exact⟨k+1,by omega,by go_num,by rw[Hs.out];go_num,setRow_heap wr w.heap.size _ _ _ _ Hg.out,below_setRow hb (Nat.le_refl _) _⟩
         case measure=>simp[intOf];omega
     · obtain rfl:k=L.length:=by omega
       have hn:=HN.out
       have hcv:(convert 85 9 (.slice (some ⟨w.heap.size,0,none⟩) N N)).run Tryz.prog wr=.ok (S L.flatten) wr:=by
        rw[List.take_length,hn]at hg
        have:=run_convert_bytes_arg (P:=Tryz.prog) wr 85 5 Tryz.underlying85 Tryz.underlying5 w.heap.size 0 N N (L.flatten.map fun b=>(b.toNat:Int)) (by rw[hn,List.length_map]) (fun i hi=>by
         rw[hn]at hi
         rw[←yno L.flatten i hi]
         simp[World.cell?,hg]) 9 Tryz.underlying9
        rw[ytk]at this
        exact this
       have hle3:(N:Int)≤281474976710656:=by omega
       clear hn hg
       go_wp2
       go_ret
       exact⟨rfl,hb⟩
end
section
open Go.RowKit
def two (l:List UInt8)(e:Int):Value:=.tuple #[S l,.int .i64 e]
theorem yte (a:List UInt8)(w:World)(h:a.length≤281474976710656):
 Calls Tryz.prog 131 #[.slice (some ⟨w.heap.size,0,none⟩) 1 1] (w.alloc (.cells #[S a] 9)) fun e w'=>e=.returned (S a)∧Below w.heap.size w w':=by
 have ht:Texts (w.alloc (.cells #[S a] 9)) (w.alloc (.cells #[S a] 9)).heap.size (some ⟨w.heap.size,0,none⟩) [a]:=fun _=>⟨w.heap.size,0,rfl,by simp,fun i hi=>by
  obtain rfl:i=0:=by simpa using hi
  simp[go_sem]⟩
 have hj:=ygz (some ⟨w.heap.size,0,none⟩) 1 [a] _ ht (by simp) (by simpa using h)
 refine hj.mono ?_
 rintro e w' ⟨rfl,hb⟩
 exact⟨by simp,((Below.refl _ _).alloc (Nat.le_refl _) _).trans (hb.mono (by simp))⟩
theorem ydm (n:Int)(w:World)(h1:n≤9223372036854775807):
 Calls Tryz.prog 90 #[.int .i64 n] w fun e w'=>e=.returned (two (Oct.numE n).1 (Oct.numE n).2)∧Below w.heap.size w w':=by
 by_cases h0:n<0
 · have e:Oct.numE n=([],2):=by unfold Oct.numE;rw[if_pos h0]
   rw[e]
   go_enter Tryz.func90,Tryz.ntmps90
   go_wp2_with fail
   go_ret2
   exact⟨rfl,Below.refl _ _⟩
 · have e:Oct.numE n=(Oct.num n.toNat,0):=by unfold Oct.numE;rw[if_neg h0]
   rw[e]
   go_enter Tryz.func90,Tryz.ntmps90
   go_wp2_with (go_at_call 125;refine(ydh n _ (by omega) h1).mono ?_;rintro e w1 ⟨rfl,hb1⟩)
   go_ret2
   exact⟨rfl,hb1⟩
theorem yc9 (s:ByteArray)(k m:Nat):s.extract k (k+m)=⟨((s.data.toList.drop k).take m).toArray⟩:=by
 have h:=ByteArray.extract_mk s.data.toList k (k+m)
 rw[Nat.add_sub_cancel_left]at h
 exact h
theorem yek {P:Program}(t:TypeId)(ht:P.underlying t=some .string)(s:ByteArray)(k m:Nat)(h:k+m≤s.size)(W:World):
 (Instr.slice t (.string s) (some (.int .i64 (k:Int))) (some (.int .i64 ((k:Int)+(m:Int)))) none).run P W=.ok (S ((s.data.toList.drop k).take m)) W:=by
 rw[run_slice_string W t s .i64 .i64 _ _ ht (by omega) (by omega) (by omega)]
 have e:((k:Int)+(m:Int)).toNat=k+m:=by omega
 rw[e,Int.toNat_natCast,yc9]
theorem ycc (s:ByteArray)(p:Int)(w:World)(hs:s.size≤9223372036854775807):
 Calls Tryz.prog 115 #[.string s,.int .i64 p] w fun e w'=>
  e=.returned (.tuple #[S (Oct.rdText s.data.toList p).1,.int .i64 (Oct.rdText s.data.toList p).2.1,.int .i64 (Oct.rdText s.data.toList p).2.2])∧Below w.heap.size w w':=by
 rcases hn:Oct.rdNum s.data.toList p with⟨n,q,e⟩
 have hok:=Oct.yce hn
 have hv:rdNumV s p=three n q e:=by unfold rdNumV;rw[hn]
 by_cases he:e≠0
 · have hr:Oct.rdText s.data.toList p=([],0,e):=by unfold Oct.rdText;rw[hn];simp only;rw[if_pos he]
   rw[hr]
   have hd:(e != 0)=true:=by rw[bne_iff_ne];exact he
   clear he hr hok
   have Hv:=yh hv;clear hv hn
   go_enter Tryz.func115,Tryz.ntmps115
   go_wp2_with fail
   refine(ya5 s p _ hs).mono ?_
   rintro e w1 ⟨rfl,rfl⟩
   rw[Hv.out]
   unfold three
   go_wp2
   go_ret3
   exact⟨rfl,Below.refl _ _⟩
 · obtain rfl:e=0:=by omega
   rcases hok with h|⟨_,hp,hn0,hn1,hpq,hq,_⟩
   · exact absurd h.1 he
   have hlen:=Oct.ya9 s
   by_cases h6:65536<n
   · have hr:Oct.rdText s.data.toList p=([],0,3):=by unfold Oct.rdText;rw[hn];simp only;rw[if_neg he,if_pos h6]
     rw[hr]
     have hd:decide (65536<n)=true:=by simpa using h6
     clear he hr
     have Hv:=yh hv;clear hv hn
     go_enter Tryz.func115,Tryz.ntmps115
     go_wp2_with fail
     refine(ya5 s p _ hs).mono ?_
     rintro e w1 ⟨rfl,rfl⟩
     rw[Hv.out]
     unfold three
     go_wp2
     go_ret3
     exact⟨rfl,Below.refl _ _⟩
   have hd:decide (65536<n)=false:=by simpa using h6
   by_cases h7:(s.size:Int)-q<n
   · have hr:Oct.rdText s.data.toList p=([],0,5):=by unfold Oct.rdText;rw[hn];simp only;rw[if_neg he,if_neg h6,hlen,if_pos h7]
     rw[hr]
     have hd2:decide ((s.size:Int)-q<n)=true:=by simpa using h7
     clear he hr
     have Hv:=yh hv;clear hv hn
     go_enter Tryz.func115,Tryz.ntmps115
     go_wp2_with fail
     refine(ya5 s p _ hs).mono ?_
     rintro e w1 ⟨rfl,rfl⟩
     rw[Hv.out]
     unfold three
     go_wp2
     go_ret3
     exact⟨rfl,Below.refl _ _⟩
   · have hr:Oct.rdText s.data.toList p=((s.data.toList.drop q.toNat).take n.toNat,q+n,0):=by unfold Oct.rdText;rw[hn];simp only;rw[if_neg he,if_neg h6,hlen,if_neg h7]
     rw[hr]
     have hd2:decide ((s.size:Int)-q<n)=false:=by simpa using h7
     rw[hlen]at hq
     have hq0:0≤q:=by omega
     obtain⟨k,rfl⟩:=Int.eq_ofNat_of_zero_le hq0
     obtain⟨m,rfl⟩:=Int.eq_ofNat_of_zero_le hn0
     clear he hr
     have Hv:=yh hv;clear hv hn
     have hsl:=yek (P:=Tryz.prog) 9 Tryz.underlying9 s k m (by omega)
     go_enter Tryz.func115,Tryz.ntmps115
     go_wp2_with fail
     refine(ya5 s p _ hs).mono ?_
     rintro e w1 ⟨rfl,rfl⟩
     rw[Hv.out]
     unfold three
     go_wp2_with fail
     refine(yte ((s.data.toList.drop k).take m) w (by rw[List.length_take];omega)).mono ?_
     rintro e w1 ⟨rfl,hb⟩
     go_wp2
     go_ret3
     exact⟨rfl,hb⟩
end
section
open Go.RowKit
def more (acc:List (List UInt8)):Except Int (List (List UInt8)×Int)→Except Int (List (List UInt8)×Int)
 | .error e=>.error e
 | .ok (r,q)=>.ok (acc++r,q)
def finish:Except Int (List (List UInt8)×Int)→List (List UInt8)×Int×Int
 | .error e=>([],0,e)
 | .ok (l,q)=>(l,q,0)
theorem yi1 (x:Except Int (List (List UInt8)×Int)):more [] x=x:=by
 rcases x with e|⟨r,q⟩ <;> rfl
theorem yi2 {s:List UInt8}{acc:List (List UInt8)}{n left:Nat}{q b e:Int}{t:List UInt8}(ht:Oct.rdText s q=(t,b,e))(he:e≠0):more acc (Oct.rdGo s (n+1) left q)=.error e:=by
 unfold Oct.rdGo;rw[ht];simp only;rw[if_pos he];rfl
theorem yi3 {s:List UInt8}{acc:List (List UInt8)}{n left:Nat}{q b:Int}{t:List UInt8}(ht:Oct.rdText s q=(t,b,0))(hl:left<t.length):more acc (Oct.rdGo s (n+1) left q)=.error 3:=by
 unfold Oct.rdGo;rw[ht];simp only;rw[if_neg (by simp),if_pos hl];rfl
theorem yg2 {s:List UInt8}{acc:List (List UInt8)}{n left:Nat}{q b:Int}{t:List UInt8}(ht:Oct.rdText s q=(t,b,0))(hl :¬left<t.length):
 more acc (Oct.rdGo s (n+1) left q)=more (acc ++ [t]) (Oct.rdGo s n (left-t.length) b):=by
 rw[Oct.rdGo];rw[ht];simp only;rw[if_neg (by simp),if_neg hl]
 rcases Oct.rdGo s n (left-t.length) b with e|⟨r,q'⟩
 · rfl
 · simp[more]
theorem yb8 {w w1:World}{base:Nat}{e:TypeId}{size n:Nat}{v:Value}{xs:List Value}(h:w.ownsRow base e size v n xs)(hb:Below w.heap.size w w1):w1.ownsRow base e size v n xs:=
 h.kept (row:=none) ⟨hb.os,hb.tape,hb.output,hb.size,fun i hi _=>hb.block i hi⟩ (by cases v.ownBlock <;> simp)
theorem yh4 (w1:World)(T:TypeId)(v:Value) :∀j u,[v][j]? = some u→(w1.alloc (.cells #[v] T)).cell? ((⟨w1.heap.size,0,none⟩:Addr).add j)=some u:=by
 intro j u hj
 have hl:j < [v].length:=(List.getElem?_eq_some_iff.1 hj).1
 obtain rfl:j=0:=by simpa using hl
 have:v=u:=by simpa using hj
 subst this
 simp[go_sem,Addr.add]
theorem yd7:(Tryz.prog.info? 9).map (fun i=>(i.zero,i.size,i.bytes))=some (some (.string ByteArray.empty),1,16):=by kernel_rfl
def TextsV (w:World)(v:Value)(l:List (List UInt8)):Prop :=∃A c,v=.slice A l.length c∧Texts w w.heap.size A l
theorem ycy {w:World}{base:Nat}{v:Value}{l:List (List UInt8)}(h:w.ownsRow base 9 1 v l.length (l.map S)):TextsV w v l:=by
 have hlt:=h.lt
 have hcs:=fun g (hg:v.ownBlock=some g)=>h.cells hg
 rcases h.2 with⟨rfl,hx⟩|⟨g,cap,cur,rfl,_,hh,hnc,_⟩
 · have:l=[]:=by simpa using hx
   subst this
   exact⟨none,0,rfl,fun h=>absurd rfl h⟩
 · refine⟨some ⟨g,0,none⟩,cap,rfl,fun _=>⟨g,0,rfl,(hlt g rfl).2,fun i hi=>?_⟩⟩
   have:=hcs g rfl i (S l[i]) (by simp[hi])
   have e:(⟨g,0,none⟩:Addr).add i=⟨g,0+i,none⟩:=by unfold Addr.add;split <;> simp_all
   rwa[e]at this
def ListEnds (w:World)(s:List UInt8)(p:Int)(e:Ending)(w':World):Prop:=
 ∃v,e=.returned (.tuple #[v,.int .i64 (Oct.rdList s p).2.1,.int .i64 (Oct.rdList s p).2.2])∧TextsV w' v (Oct.rdList s p).1∧Below w.heap.size w w'
theorem yda (s:ByteArray)(p:Int)(w:World)(hs:s.size≤9223372036854775807):
 Calls Tryz.prog 80 #[.string s,.int .i64 p] w (ListEnds w s.data.toList p):=by
 obtain⟨i0,hi,hz0,hz1,hz2⟩:=info_parts yd7
 have Hi:=yh hi;clear hi
 have Hz0:=yh hz0;clear hz0
 have Hz1:=yh hz1;clear hz1
 have Hz2:=yh hz2;clear hz2
 rcases hn:Oct.rdNum s.data.toList p with⟨n,q,e⟩
 have hok:=Oct.yce hn
 have hv:rdNumV s p=three n q e:=by unfold rdNumV;rw[hn]
 have hnil :∀W:World,TextsV W (.slice none 0 0) []:=fun W=>⟨none,0,rfl,fun h=>absurd rfl h⟩
 by_cases he:e≠0
 · have hr:Oct.rdList s.data.toList p=([],0,e):=by unfold Oct.rdList;rw[hn];simp only;rw[if_pos he]
   unfold ListEnds
   rw[hr]
   have hd:(e != 0)=true:=by rw[bne_iff_ne];exact he
   clear he hr hok
   have Hv:=yh hv;clear hv hn
   go_enter Tryz.func80,Tryz.ntmps80
   go_wp2_with fail
   refine(ya5 s p _ hs).mono ?_
   rintro e w1 ⟨rfl,rfl⟩
   rw[Hv.out]
   unfold three
   go_wp2
   go_ret3
   exact⟨_,rfl,hnil _,Below.refl _ _⟩
 · obtain rfl:e=0:=by omega
   rcases hok with h|⟨_,hp,hn0,hn1,hpq,hq,_⟩
   · exact absurd h.1 he
   by_cases h6:1024<n
   · have hr:Oct.rdList s.data.toList p=([],0,3):=by unfold Oct.rdList;rw[hn];simp only;rw[if_neg he,if_pos h6]
     unfold ListEnds
     rw[hr]
     have hd:decide (1024<n)=true:=by simpa using h6
     clear he hr
     have Hv:=yh hv;clear hv hn
     go_enter Tryz.func80,Tryz.ntmps80
     go_wp2_with fail
     refine(ya5 s p _ hs).mono ?_
     rintro e w1 ⟨rfl,rfl⟩
     rw[Hv.out]
     unfold three
     go_wp2
     go_ret3
     exact⟨_,rfl,hnil _,Below.refl _ _⟩
   have hd:decide (1024<n)=false:=by simpa using h6
   obtain⟨m,rfl⟩:=Int.eq_ofNat_of_zero_le hn0
   have hr:Oct.rdList s.data.toList p=finish (Oct.rdGo s.data.toList m 65536 q):=by
    unfold Oct.rdList;rw[hn];simp only;rw[if_neg he,if_neg h6,Int.toNat_natCast]
    cases Oct.rdGo s.data.toList m 65536 q <;> rfl
   have hlen:=Oct.ya9 s
   rw[hlen]at hq
   have Hr:=yh hr
   have Hv:=yh hv
   clear hv hn he hr hlen
   go_enter Tryz.func80,Tryz.ntmps80
   go_wp2_with fail
   refine(ya5 s p _ hs).mono ?_
   rintro e w1 ⟨rfl,rfl⟩
   rw[Hv.out]
   unfold three
   go_wp2_with fail
   go_loopw [1,9,10,27] (fun at_ left v i wr =>∃(k:Nat) (acc:List (List UInt8)) (lf:Nat) (b:Int),k≤m∧acc.length=k∧lf≤65536∧0≤b∧b≤s.size∧i=.int .i64 k∧at_=.int .i64 b∧left=.int .i64 lf∧
    wr.ownsRow w.heap.size 9 1 v acc.length (acc.map S)∧Below w.heap.size w wr∧Oct.rdGo s.data.toList m 65536 q=more acc (Oct.rdGo s.data.toList (m-k) lf b)) (fun _ _ _ i _=>m-(intOf i).toNat)
   case atStart=>exact⟨0,[],65536,q,by omega,rfl,by omega,by omega,hq,rfl,rfl,rfl,World.ownsRow_nil _ _ _ _,Below.refl _ _,by rw[yi1,Nat.sub_zero]⟩
   case round=>
    obtain⟨k,acc,lf,b,hk,hacc,hlf,hb0,hb1,rfl,rfl,rfl,hown,hbel,hrem⟩:=hrel
    have Hacc:=yh hacc
    have Hrem:=yh hrem
    clear hacc hrem
    by_cases hlt:k<m
    · rcases ht:Oct.rdText s.data.toList b with⟨t,b2,e2⟩
      have hok:=Oct.yew ht
      have Ht:=yh ht
      clear ht
      obtain⟨j,hj⟩ :∃j,m-k=j+1:=⟨m-k-1,by omega⟩
      have hrem:=Hrem.out
      rw[hj]at hrem
      by_cases he2:e2≠0
      · have hfin:Oct.rdList s.data.toList p=([],0,e2):=by rw[Hr.out,hrem,yi2 Ht.out he2];rfl
        have Hfin:=yh hfin
        have hd:(e2 != 0)=true:=by rw[bne_iff_ne];exact he2
        clear hfin hrem hj hok he2
        go_wp2_with fail
        refine(ycc s b _ hs).mono ?_
        rintro e w1 ⟨rfl,hb2⟩
        rw[Ht.out]
        go_wp2_with fail
        go_ret3
        unfold ListEnds
        rw[Hfin.out]
        exact⟨_,rfl,hnil _,hbel.trans (hb2.mono hbel.size)⟩
      obtain rfl:e2=0:=by omega
      rcases hok with h|⟨_,_,ht64,hbb,hb2s,_⟩
      · exact absurd h.1 he2
      rw[Oct.ya9]at hb2s
      by_cases hbig:lf<t.length
      · have hfin:Oct.rdList s.data.toList p=([],0,3):=by rw[Hr.out,hrem,yi3 Ht.out hbig];rfl
        have Hfin:=yh hfin
        have hd1:decide ((lf:Int)<(t.length:Int))=true:=by simp;omega
        have hd2:decide (lf<t.length)=true:=by simp;omega
        clear hfin hrem hj he2
        go_wp2_with fail
        refine(ycc s b _ hs).mono ?_
        rintro e w1 ⟨rfl,hb2⟩
        rw[Ht.out]
        go_wp2_with fail
        go_ret3
        unfold ListEnds
        rw[Hfin.out]
        exact⟨_,rfl,hnil _,hbel.trans (hb2.mono hbel.size)⟩
      · rw[yg2 Ht.out hbig]at hrem
        have hj':j=m-(k+1):=by omega
        subst hj'
        have Hrem2:=yh hrem
        have hd1:decide ((lf:Int)<(t.length:Int))=false:=by simp;omega
        have hd2:decide (lf<t.length)=false:=by simp;omega
        clear hrem hj he2
        go_wp2_with fail
        refine(ycc s b _ hs).mono ?_
        rintro e w1 ⟨rfl,hb2⟩
        rw[Ht.out]
        have hown1:=(yb8 hown hb2).alloc (.cells #[S t] 9)
        have hal:=Hacc.out
        have hbel1:=(hbel.trans (hb2.mono hbel.size)).alloc (hbel.trans (hb2.mono hbel.size)).size (.cells #[S t] 9)
        have hsz:=hbel1.size
        have c3:acc.length+1≤maxLen:=by unfold maxLen;omega
        have c4:(acc.length+1)*16≤140737488355328:=by omega
        have hc1:=yh4 w1 9 (S t)
        have Hown1:=yh hown1
        have Hc1:=yh hc1
        clear hown hown1 hc1 hal
        go_wp2_with (at_builtin;refine wpList_append_own _ rfl (.tmp 48) (.tmp 50) _ rfl w.heap.size 9 i0 _ 1 16 Tryz.underlying56 Hi.out Hz0.out Hz1.out Hz2.out rfl (by decide) u10 acc.length (acc.map S) rfl Hown1.out ⟨w1.heap.size,0,none⟩ 1 1 [S t] rfl rfl Hc1.out (by simp[Value.oneCell']) c3 c4 hsz ?_;intro v2 w2 hown2 hgr2 _)
        refine⟨⟨k+1,acc ++ [t],lf-t.length,b2,by omega,by rw[List.length_append,Hacc.out];rfl,by omega,by omega,hb2s,by go_num,rfl,?_,?_,hbel1.grown hgr2 hsz (fun g hg=>(Hown1.out.lt g hg).1),Hrem2.out⟩,by simp[intOf];omega⟩
        · congr 1;omega
        · simpa using hown2
    · obtain rfl:k=m:=by omega
      have hfin:Oct.rdList s.data.toList p=(acc,b,0):=by rw[Hr.out,Hrem.out,Nat.sub_self];simp[Oct.rdGo,more,finish]
      have Hfin:=yh hfin
      have Hown:=yh hown
      clear hfin hown
      go_wp2_with fail
      go_ret3
      unfold ListEnds
      rw[Hfin.out]
      exact⟨_,rfl,ycy Hown.out,hbel⟩
end
section
open Go.RowKit
theorem yg4 {L:List (List UInt8)}{k lf:Nat}(hk:k<L.length):
 Oct.listGo lf (L.drop k)=if lf<L[k].length then none else (Oct.listGo (lf-L[k].length) (L.drop (k+1))).map (Oct.text L[k] ++ ·):=by
 rw[List.drop_eq_getElem_cons hk];rfl
def inFront (a:List UInt8)(x:Option (List UInt8)):Option (List UInt8):=x.map (a ++ ·)
def laid (n:List UInt8):Option (List UInt8)→List UInt8×Int
 | none=>([],3)
 | some b=>(n++b,0)
theorem yfm {L:List (List UInt8)}{k lf:Nat}(hk:k<L.length)(h :¬lf<L[k].length)(a:List UInt8):
 inFront a (Oct.listGo lf (L.drop k))=inFront (a++Oct.text L[k]) (Oct.listGo (lf-L[k].length) (L.drop (k+1))):=by
 rw[yg4 hk,if_neg h]
 unfold inFront
 cases Oct.listGo (lf-L[k].length) (L.drop (k+1)) <;> simp
theorem yfn {L:List (List UInt8)}{k lf:Nat}(hk:k<L.length)(h:lf<L[k].length)(a:List UInt8):
 inFront a (Oct.listGo lf (L.drop k))=none:=by
 rw[yg4 hk,if_pos h];rfl
theorem two_at (w1:World)(T:TypeId)(v v2:Value) :∀j u,[v,v2][j]? = some u→(w1.alloc (.cells #[v,v2] T)).cell? ((⟨w1.heap.size,0,none⟩:Addr).add j)=some u:=by
 intro j u hj
 have hl:j < [v,v2].length:=(List.getElem?_eq_some_iff.1 hj).1
 have h2:j=0∨j=1:=by simp at hl;omega
 rcases h2 with rfl|rfl
 · have:v=u:=by simpa using hj
   subst this
   simp[go_sem,Addr.add]
 · have:v2=u:=by simpa using hj
   subst this
   simp[go_sem,Addr.add]
theorem ym8 (A:Option Addr)(c:Nat)(L:List (List UInt8))(w:World)(hr:Texts w w.heap.size A L):
 Calls Tryz.prog 95 #[.slice A L.length c] w fun e w'=>e=.returned (two (Oct.listE L).1 (Oct.listE L).2)∧Below w.heap.size w w':=by
 obtain⟨i0,hi,hz0,hz1,hz2⟩:=info_parts yd7
 have Hi:=yh hi;clear hi
 have Hz0:=yh hz0;clear hz0
 have Hz1:=yh hz1;clear hz1
 have Hz2:=yh hz2;clear hz2
 by_cases hbig:1024<L.length
 · have e:Oct.listE L=([],3):=by unfold Oct.listE;rw[if_pos hbig]
   rw[e]
   have hd:decide ((1024:Int)<(L.length:Int))=true:=by simp;omega
   have hd2:decide (1024<L.length)=true:=by simp;omega
   go_enter Tryz.func95,Tryz.ntmps95
   go_wp2_with fail
   go_ret2
   exact⟨rfl,Below.refl _ _⟩
 · have hlist:Oct.listE L=laid (Oct.num L.length) (Oct.listGo 65536 L):=by
    unfold Oct.listE;rw[if_neg hbig]
    cases Oct.listGo 65536 L <;> rfl
   have hd:decide ((1024:Int)<(L.length:Int))=false:=by simp;omega
   have hd2:decide (1024<L.length)=false:=by simp;omega
   have Hlist:=yh hlist
   clear hlist
   have hmk :∀W:World,(Instr.makeSlice 56 (.int .i64 0) (.int .i64 (2*(L.length:Int)+1))).run Tryz.prog W=.ok (.slice (some ⟨W.heap.size,0,none⟩) 0 (2*L.length+1)) (W.alloc (.cells (madeCells (Value.string ByteArray.empty).cells ((2*L.length+1)*1)) 9)):=by
    intro W
    have hr:=run_make (P:=Tryz.prog) W 56 9 i0 _ Tryz.underlying56 Hi.out Hz0.out .i64 .i64 0 (2*(L.length:Int)+1) (by omega) (by omega) (by rw[Hz2.out];omega) (by omega)
    have e1:(2*(L.length:Int)+1).toNat=2*L.length+1:=by omega
    rw[Hz1.out,e1]at hr
    exact hr
   have hmade:=World.ownsRow_made (base:=w.heap.size) (e:=9) (size:=1) w (madeCells (Value.string ByteArray.empty).cells ((2*L.length+1)*1)) (2*L.length+1) (Nat.le_refl _) (by unfold maxLen;omega) (by rw[size_madeCells])
   obtain⟨mc,hmc⟩ :∃mc,mc=madeCells (Value.string ByteArray.empty).cells ((2*L.length+1)*1):=⟨_,rfl⟩
   rw[←hmc]at hmade
   simp only[←hmc]at hmk
   clear hmc
   have Hmade:=yh hmade
   clear hmade
   go_enter Tryz.func95,Tryz.ntmps95
   go_wp2_with fail
   refine(ydh _ _ (by omega) (by omega)).mono ?_
   rintro e w1 ⟨rfl,hb1⟩
   rw[Int.toNat_natCast]
   have hbw:Below w.heap.size w (w.alloc (.cells mc 9)):=(Below.refl _ _).alloc (Nat.le_refl _) _
   have hb1':Below w.heap.size w (w1.alloc (.cells #[S (Oct.num L.length)] 9)):=(hbw.trans (hb1.mono hbw.size)).alloc (hbw.trans (hb1.mono hbw.size)).size _
   have hown1:=(yb8 Hmade.out hb1).alloc (.cells #[S (Oct.num L.length)] 9)
   have hsz:=hb1'.size
   have hc1:=yh4 w1 9 (S (Oct.num L.length))
   have Hown1:=yh hown1
   have Hc1:=yh hc1
   clear hown1 hc1 hmk
   go_wp2_with (at_builtin;refine wpList_append_own _ rfl (.tmp 16) (.tmp 20) _ rfl w.heap.size 9 i0 _ 1 16 Tryz.underlying56 Hi.out Hz0.out Hz1.out Hz2.out rfl (by decide) (.slice (some ⟨w.heap.size,0,none⟩) 0 (2*L.length+1)) 0 [] rfl Hown1.out ⟨w1.heap.size,0,none⟩ 1 1 [S (Oct.num L.length)] rfl rfl Hc1.out (by simp[Value.oneCell']) (by unfold maxLen;omega) (by omega) hsz ?_;intro v2 w2 hown2 hgr2 _)
   have hb2:Below w.heap.size w w2:=hb1'.grown hgr2 hsz (fun g hg=>(Hown1.out.lt g hg).1)
   go_loopw [4,5,24] (fun left v i wr =>∃(k:Nat) (acc:List (List UInt8)) (lf:Nat) (a:List UInt8),k≤L.length∧acc.length=2*k+1∧lf≤65536∧i=.int .i64 k∧left=.int .i64 lf∧
    wr.ownsRow w.heap.size 9 1 v acc.length (acc.map S)∧Below w.heap.size w wr∧acc.flatten=Oct.num L.length++a∧Oct.listGo 65536 L=inFront a (Oct.listGo lf (L.drop k))∧acc.flatten.length+lf≤9+9*k+65536) (fun _ _ i _=>L.length-(intOf i).toNat)
   case atStart=>
    refine⟨0,[Oct.num L.length],65536,[],by omega,rfl,by omega,rfl,rfl,hown2,hb2,by simp,?_,?_⟩
    · rw[List.drop_zero];unfold inFront;cases Oct.listGo 65536 L <;> simp
    · have:=Oct.yay L.length
      simp;omega
   case round=>
    obtain⟨k,acc,lf,a,hk,hacc,hlf,rfl,rfl,hown,hbel,hflat,hrem,hlen⟩:=hrel
    have Hacc:=yh hacc
    have Hrem:=yh hrem
    have Hflat:=yh hflat
    have Hown:=yh hown
    have Hlen:=yh hlen
    clear hacc hrem hflat hown hlen hb2 hown2 hgr2
    by_cases hlt:k<L.length
    · obtain⟨b,off,rfl,hbb,hc⟩:=hr (by rintro rfl;simp at hlt)
      have hck:=(hbel.cell (p:=⟨b,off+k,none⟩) hbb).trans (hc k hlt)
      clear hc
      by_cases hbg:lf<L[k].length
      · have hfin:Oct.listE L=([],3):=by rw[Hlist.out,Hrem.out,yfn hlt hbg];rfl
        have Hfin:=yh hfin
        have hd3:decide ((lf:Int)<(L[k].length:Int))=true:=by simp;omega
        have hd4:decide (lf<L[k].length)=true:=by simp;omega
        clear hfin
        go_wp2_with fail
        go_ret2
        rw[Hfin.out]
        exact⟨rfl,hbel⟩
      · have hrem2:=Hrem.out
        rw[yfm hlt hbg]at hrem2
        have Hrem2:=yh hrem2
        have hd3:decide ((lf:Int)<(L[k].length:Int))=false:=by simp;omega
        have hd4:decide (lf<L[k].length)=false:=by simp;omega
        have hsub:(L[k].length:Int)≤lf:=by omega
        clear hrem2
        go_wp2_with fail
        refine(ydh _ _ (by omega) (by omega)).mono ?_
        rintro e w3 ⟨rfl,hb3⟩
        rw[Int.toNat_natCast]
        have hb3':Below w.heap.size w (w3.alloc (.cells #[S (Oct.num L[k].length),S L[k]] 9)):=(hbel.trans (hb3.mono hbel.size)).alloc (hbel.trans (hb3.mono hbel.size)).size _
        have hown3:=(yb8 Hown.out hb3).alloc (.cells #[S (Oct.num L[k].length),S L[k]] 9)
        have hsz3:=hb3'.size
        have hc3:=two_at w3 9 (S (Oct.num L[k].length)) (S L[k])
        have hal:=Hacc.out
        have hm3:acc.length+2≤maxLen:=by unfold maxLen;omega
        have hm4:(acc.length+2)*16≤140737488355328:=by omega
        have Hown3:=yh hown3
        have Hc3:=yh hc3
        clear hown3 hc3 hal
        go_wp2_with (at_builtin;refine wpList_append_own _ rfl (.tmp 36) (.tmp 41) _ rfl w.heap.size 9 i0 _ 1 16 Tryz.underlying56 Hi.out Hz0.out Hz1.out Hz2.out rfl (by decide) u5 acc.length (acc.map S) rfl Hown3.out ⟨w3.heap.size,0,none⟩ 2 2 [S (Oct.num L[k].length),S L[k]] rfl rfl Hc3.out (by simp[Value.oneCell']) hm3 hm4 hsz3 ?_;intro v4 w4 hown4 hgr4 _)
        refine⟨⟨k+1,acc ++ [Oct.num L[k].length,L[k]],lf-L[k].length,a++Oct.text L[k],by omega,by rw[List.length_append,Hacc.out];simp;omega,by omega,by go_num,?_,?_,hb3'.grown hgr4 hsz3 (fun g hg=>(Hown3.out.lt g hg).1),?_,Hrem2.out,?_⟩,by simp[intOf];omega⟩
        · congr 1;omega
        · simpa using hown4
        · rw[List.flatten_append,Hflat.out];simp[Oct.text]
        · have h1:=Hlen.out
          have h2:=Oct.yay L[k].length
          rw[List.flatten_append,List.length_append]
          simp only[List.flatten_cons,List.flatten_nil,List.append_nil,List.length_append]
          omega
    · obtain rfl:k=L.length:=by omega
      have hfin:Oct.listE L=(acc.flatten,0):=by
       rw[Hlist.out,Hrem.out,List.drop_length,Hflat.out]
       simp[Oct.listGo,inFront,laid]
      have Hfin:=yh hfin
      obtain⟨A2,c2,rfl,ht2⟩:=ycy Hown.out
      have hl1:=Hlen.out
      have hl2:=Hacc.out
      have hl3:acc.length≤9223372036854775807:=by omega
      have hl4:acc.flatten.length≤281474976710656:=by omega
      clear hfin hl1 hl2
      go_wp2_with fail
      refine(ygz A2 c2 acc _ ht2 hl3 hl4).mono ?_
      rintro e w3 ⟨rfl,hb3⟩
      go_wp2_with fail
      go_ret2
      rw[Hfin.out]
      exact⟨rfl,hbel.trans (hb3.mono hbel.size)⟩
end
section
open Go.RowKit
theorem ymt (T:TypeId)(W:World)(x:Int):(convert 85 9 (.slice (some ⟨W.heap.size,0,none⟩) 1 1)).run Tryz.prog (W.alloc (.cells #[.int .u8 x] T))=.ok (S [UInt8.ofNat x.toNat]) (W.alloc (.cells #[.int .u8 x] T)):=by
 have:=run_convert_bytes_arg (P:=Tryz.prog) (W.alloc (.cells #[.int .u8 x] T)) 85 5 Tryz.underlying85 Tryz.underlying5 W.heap.size 0 1 1 [x] rfl (fun i hi=>by
  obtain rfl:i=0:=by omega
  simp[go_sem]) 9 Tryz.underlying9
 exact this
theorem yem (a b:List UInt8):(⟨a.toArray⟩:ByteArray)++⟨b.toArray⟩=⟨(a++b).toArray⟩:=by
 apply ByteArray.ext;simp
theorem ycu (n:Int)(w:World)(h1:n≤9223372036854775807):
 Calls Tryz.prog 135 #[.int .i64 n] w fun e w'=>e=.returned (two (Oct.numE n).1 (Oct.numE n).2)∧Below w.heap.size w w':=by
 by_cases h0:n<0
 · have e:Oct.numE n=([],2):=by unfold Oct.numE;rw[if_pos h0]
   rw[e]
   go_enter Tryz.func135,Tryz.ntmps135
   go_wp2_with fail
   go_ret2
   exact⟨rfl,Below.refl _ _⟩
 · have e:Oct.numE n=(Oct.num n.toNat,0):=by unfold Oct.numE;rw[if_neg h0]
   rw[e]
   clear e
   go_enter Tryz.func135,Tryz.ntmps135
   go_wp2_with fail
   go_loopw [0,4,5] (fun a b c wr =>∃(m:Nat) (bk:List UInt8),a=.int .i64 m∧b=S bk∧c=.int .i64 bk.length∧bk.length≤8∧m<256 ^ (8-bk.length)∧(m:Int)≤9223372036854775807∧Oct.bigs 8 n.toNat=Oct.bigs (8-bk.length) m++bk∧Below w.heap.size w wr) (fun a _ _ _=>(intOf a).toNat)
   case atStart=>exact⟨n.toNat,[],by rw[Int.toNat_of_nonneg (by omega)],rfl,rfl,by simp,by simp;omega,by omega,by simp,Below.refl _ _⟩
   case round=>
    obtain⟨m,bk,rfl,rfl,rfl,hk,hm,hm2,hb,hbel⟩:=hrel
    have Hm:=yh hm;clear hm
    have Hb:=yh hb;clear hb
    by_cases hlt:0<m
    · have hl7:bk.length≤7:=by
       have:=Hm.out
       rcases Nat.lt_or_ge bk.length 8 with h|h
       · omega
       · have e:bk.length=8:=by omega
         rw[e]at this;simp at this;omega
      have hcv:=ymt 5 wr ((m:Int)%256)
      go_wp2_with fail
      have hms:=Hm.out
      have hbs:=Hb.out
      have e8:8-bk.length=(8-(bk.length+1))+1:=by omega
      rw[e8]at hms hbs
      refine⟨⟨m / 256,UInt8.ofNat (m%256)::bk,by simp,?_,by simp,by simp;omega,?_,by omega,?_,hbel.alloc hbel.size _⟩,?_⟩
      · exact congrArg Value.string (yem [UInt8.ofNat (m%256)] bk)
      · rw[Nat.div_lt_iff_lt_mul (by decide)]
        rw[Nat.pow_succ]at hms
        simpa using hms
      · rw[hbs,Oct.bigs,if_neg (by omega)]
        simp
      · simp[intOf];omega
    · obtain rfl:m=0:=by omega
      have hcv:=ymt 5 wr (bk.length:Int)
      go_wp2_with fail
      go_ret2
      have hbs:=Hb.out
      have hnum:Oct.num n.toNat=UInt8.ofNat bk.length::bk:=by
       have e:Oct.bigs (8-bk.length) 0=[]:=by cases (8-bk.length) <;> simp[Oct.bigs]
       unfold Oct.num
       rw[hbs,e];simp
      rw[hnum]
      refine⟨?_,hbel.alloc hbel.size _⟩
      exact congrArg (fun x=>Ending.returned (Value.tuple #[Value.string x,.int .i64 0])) (yem [UInt8.ofNat bk.length] bk)
theorem yle (s:ByteArray)(w:World):
 Calls Tryz.prog 163 #[.string s] w fun e w'=>e=.returned (two (Oct.textE s.data.toList).1 (Oct.textE s.data.toList).2)∧Below w.heap.size w w':=by
 by_cases h0:65536<s.size
 · have e:Oct.textE s.data.toList=([],3):=by unfold Oct.textE;rw[Oct.ya9,if_pos h0]
   rw[e]
   clear e
   go_enter Tryz.func163,Tryz.ntmps163
   go_wp2_with fail
   go_ret2
   exact⟨rfl,Below.refl _ _⟩
 · have e:Oct.textE s.data.toList=(Oct.text s.data.toList,0):=by unfold Oct.textE;rw[Oct.ya9,if_neg h0]
   rw[e]
   clear e
   have en:Oct.numE (s.size:Int)=(Oct.num s.size,0):=by unfold Oct.numE;rw[if_neg (by omega),Int.toNat_natCast]
   have En:=yh en
   clear en
   go_enter Tryz.func163,Tryz.ntmps163
   go_wp2_with fail
   refine(ycu _ _ (by omega)).mono ?_
   rintro e w1 ⟨rfl,hb1⟩
   rw[En.out]
   unfold two
   have hcat:=Oct.yay s.size
   go_wp2_with fail
   go_ret2
   refine⟨?_,hb1⟩
   exact congrArg (fun x=>Ending.returned (Value.tuple #[Value.string x,.int .i64 0])) (yem (Oct.num s.size) s.data.toList)
theorem yfa (s:ByteArray)(p:Int)(w:World)(h:p<0∨(s.size:Int)<p):
 Calls Tryz.prog 105 #[.string s,.int .i64 p] w fun e w'=>e=.returned (three 0 0 4)∧w=w':=by
 by_cases h0:p<0
 · have hd:decide (p<0)=true:=by simpa using h0
   go_enter Tryz.func105,Tryz.ntmps105
   go_wp2
   go_ret3
   exact⟨rfl,rfl⟩
 · have hd:decide (p<0)=false:=by simpa using h0
   have h1:(s.size:Int)<p:=by omega
   have hd1:decide ((s.size:Int)<p)=true:=by simpa using h1
   go_enter Tryz.func105,Tryz.ntmps105
   go_wp2
   go_ret3
   exact⟨rfl,rfl⟩
theorem yfb (s:ByteArray)(w:World):
 Calls Tryz.prog 105 #[.string s,.int .i64 s.size] w fun e w'=>e=.returned (three 0 0 5)∧w=w':=by
 go_enter Tryz.func105,Tryz.ntmps105
 go_wp2
 go_ret3
 exact⟨rfl,rfl⟩
theorem yfc (s:ByteArray)(p:Nat)(w:World)(hs:s.size≤140737488351232)(hp:p<s.size)(hk:8<s[p].toNat):
 Calls Tryz.prog 105 #[.string s,.int .i64 p] w fun e w'=>e=.returned (three 0 0 6)∧w=w':=by
 have hd:decide ((p:Int)<0)=false:=by simp
 have hd1:decide (s.size<p)=false:=by simp;omega
 have hd2:((p:Int) == (s.size:Int))=false:=by simp;omega
 have hb:=yc4 s[p]
 have hd3:decide ((8:Int)<(s[p].toNat:Int))=true:=by simp;omega
 go_enter Tryz.func105,Tryz.ntmps105
 go_wp2
 go_ret3
 exact⟨rfl,rfl⟩
theorem yeg (s:ByteArray)(p:Nat)(w:World)(hs:s.size≤140737488351232)(hp:p<s.size)(hk:s[p].toNat≤8)(hk2:s.size<p+1+s[p].toNat):
 Calls Tryz.prog 105 #[.string s,.int .i64 p] w fun e w'=>e=.returned (three 0 0 5)∧w=w':=by
 have hd:decide ((p:Int)<0)=false:=by simp
 have hd1:decide (s.size<p)=false:=by simp;omega
 have hd2:((p:Int) == (s.size:Int))=false:=by simp;omega
 have hb:=yc4 s[p]
 have hd3:decide ((8:Int)<(s[p].toNat:Int))=false:=by simp;omega
 have hd4:decide ((s.size:Int)<(p:Int)+1+(s[p].toNat:Int))=true:=by simp;omega
 go_enter Tryz.func105,Tryz.ntmps105
 go_wp2
 go_ret3
 exact⟨rfl,rfl⟩
theorem yev (s:ByteArray)(p:Nat)(w:World)(hs:s.size≤140737488351232)(hp:p<s.size)(hk:s[p].toNat≤8)(hk2:p+1+s[p].toNat≤s.size):
 Calls Tryz.prog 105 #[.string s,.int .i64 p] w fun e w'=>e=.returned (rdNumV s p)∧w=w':=by
 have hd:decide ((p:Int)<0)=false:=by simp
 have hd1:decide (s.size<p)=false:=by simp;omega
 have hd2:((p:Int) == (s.size:Int))=false:=by simp;omega
 have hb:=yc4 s[p]
 have hd3:decide ((8:Int)<(s[p].toNat:Int))=false:=by simp;omega
 have hd4:decide ((s.size:Int)<(p:Int)+1+(s[p].toNat:Int))=false:=by simp;omega
 go_enter Tryz.func105,Tryz.ntmps105
 go_wp2
 go_loop [8,9] (fun n c =>∃j:Nat,j≤s[p].toNat∧c=.int .i64 ((p+1+j:Nat):Int)∧n=.int .u64 (Oct.val (Oct.own s p j))) (fun _ c=>p+1+s[p].toNat-(intOf c).toNat)
 case atStart=>exact⟨0,by omega,by go_num,rfl⟩
 case round=>
  obtain⟨j,hj,rfl,rfl⟩:=hrel
  by_cases hlt:j<s[p].toNat
  · have hsn:=Oct.yfw s p j (by omega)
    have hvs:Oct.val (Oct.own s p (j+1))=Oct.val (Oct.own s p j)*256+(s[p+1+j]'(by omega)).toNat:=by rw[hsn,Oct.ydn]
    have hvl:(Oct.val (Oct.own s p j):Int)≤72057594037927935:=by
     have h1:=Oct.yo9 (Oct.own s p j)
     rw[Oct.yqe s p j (by omega)]at h1
     have h2:256 ^ j≤256 ^ 7:=Nat.pow_le_pow_right (by decide) (by omega)
     have h3:(256:Nat) ^ 7=72057594037927936:=by decide
     omega
    have hb2:=yc4 (s[p+1+j]'(by omega))
    have Hvs:=yh hvs
    clear hvs hsn
    go_wp2
    go_round
    case rel=>exact⟨j+1,by omega,by go_num,by rw[Hvs.out];go_num⟩
    case measure=>simp[intOf];omega
  · obtain rfl:j=s[p].toNat:=by omega
    have Hfine:=fun h=>yh (Oct.yhz s p hp hk hk2 h)
    have Hbad:=fun h=>yh (Oct.ygt s p hp hk hk2 h)
    by_cases hk0:0<s[p].toNat
    · have hp1:p+1<s.size:=by omega
      have hp2:(p:Int)+1<s.size:=by omega
      have hd5:decide ((0:Int)<(s[p].toNat:Int))=true:=by simp;omega
      have hd6:decide (0<s[p].toNat)=true:=by simp;omega
      by_cases hz:s[p+1].toNat=0
      · have hd7:((s[p+1].toNat:Int) == 0)=true:=by simp[hz]
        have Hres:=Hbad (.inl ((Oct.ye3 s p _ hk2 hk0).2 hz))
        have Hz:=yh hz
        clear hz Hfine Hbad
        go_wp2
        go_ret3
        unfold rdNumV
        rw[Hres.out]
        exact⟨rfl,rfl⟩
      · have hd7:((s[p+1].toNat:Int) == 0)=false:=by simp;omega
        by_cases hv:2 ^ 63≤Oct.val (Oct.own s p s[p].toNat)
        · have hd8:decide ((9223372036854775807:Int)<(Oct.val (Oct.own s p s[p].toNat):Int))=true:=by simp;omega
          have Hres:=Hbad (.inr hv)
          clear hv Hfine Hbad
          go_wp2
          go_ret3
          unfold rdNumV
          rw[Hres.out]
          exact⟨rfl,rfl⟩
        · have hd8:decide ((9223372036854775807:Int)<(Oct.val (Oct.own s p s[p].toNat):Int))=false:=by simp;omega
          have Hres:=Hfine (by
           rintro(h|h)
           · exact hz ((Oct.ye3 s p _ hk2 hk0).1 h)
           · exact hv h)
          have hv2:(Oct.val (Oct.own s p s[p].toNat):Int)≤9223372036854775807:=by omega
          clear hv Hfine Hbad
          go_wp2
          go_ret3
          unfold rdNumV
          rw[Hres.out]
          exact⟨rfl,rfl⟩
    · have hk00:s[p].toNat≤0:=by omega
      have hd5:decide ((0:Int)<(s[p].toNat:Int))=false:=by simp;omega
      have hd6:decide (0<s[p].toNat)=false:=by simp;omega
      have hv :¬2 ^ 63≤Oct.val (Oct.own s p s[p].toNat):=by
       have h1:=Oct.yjo s p s[p].toNat (by omega) hk2
       omega
      have hd8:decide ((9223372036854775807:Int)<(Oct.val (Oct.own s p s[p].toNat):Int))=false:=by simp;omega
      have Hres:=Hfine (by
       rintro(h|h)
       · have e0:s[p].toNat=0:=by omega
         rw[e0,Oct.ymq]at h;simp at h
       · exact hv h)
      have hv2:(Oct.val (Oct.own s p s[p].toNat):Int)≤9223372036854775807:=by omega
      clear hv Hfine Hbad
      go_wp2
      go_ret3
      unfold rdNumV
      rw[Hres.out]
      exact⟨rfl,rfl⟩
theorem ybd (s:ByteArray)(p:Int)(w:World)(hs:s.size≤140737488351232):
 Calls Tryz.prog 105 #[.string s,.int .i64 p] w fun e w'=>e=.returned (rdNumV s p)∧w=w':=by
 have hl:=Oct.ya9 s
 by_cases h0:p<0∨(s.size:Int)<p
 · unfold rdNumV
   rw[Oct.yj2 _ _ (by rw[hl];exact h0)]
   exact yfa s p w h0
 obtain⟨k,rfl⟩:=Int.eq_ofNat_of_zero_le (show 0≤p by omega)
 by_cases h1:k=s.size
 · subst h1
   unfold rdNumV
   rw[Oct.yj3]
   exact yfb s w
 have hp:k<s.size:=by omega
 by_cases h2:8<s[k].toNat
 · unfold rdNumV
   rw[Oct.yj4 s k hp h2]
   exact yfc s k w hs hp h2
 by_cases h3:s.size<k+1+s[k].toNat
 · unfold rdNumV
   rw[Oct.ygs s k hp (by omega) h3]
   exact yeg s k w hs hp (by omega) h3
 exact yev s k w hs hp (by omega) (by omega)
end
section
open Go.RowKit
def Own8 (w:World)(base:Nat)(v:Value)(bs:List UInt8):Prop:=
 ∃g cap,v=.slice (some ⟨g,0,none⟩) bs.length cap∧base≤g∧g<w.heap.size∧bs.length≤cap∧cap≤maxLen∧
  (∀i,i<cap→(w.cell? ⟨g,i,none⟩).isSome=true∧w.frozen? ⟨g,i,none⟩=false)∧
  ∀i (h:i<bs.length),w.cell? ⟨g,i,none⟩=some (.int .u8 (bs[i].toNat:Int))
theorem Own8.below {w w1:World}{base:Nat}{v:Value}{bs:List UInt8}(h:Own8 w base v bs)(hb:Below w.heap.size w w1):Own8 w1 base v bs:=by
 obtain⟨g,cap,rfl,hg,hgs,hn,hm,hw,hc⟩:=h
 refine⟨g,cap,rfl,hg,Nat.lt_of_lt_of_le hgs hb.size,hn,hm,fun i hi=>?_,fun i hi=>?_⟩
 · rw[hb.cell (p:=⟨g,i,none⟩) hgs,hb.frozen (p:=⟨g,i,none⟩) hgs];exact hw i hi
 · rw[hb.cell (p:=⟨g,i,none⟩) hgs];exact hc i hi
theorem yl6 (w:World)(e:TypeId)(s:ByteArray):Below w.heap.size w (Lib.bytesWorld w e s):=
 ⟨rfl,rfl,rfl,by rw[Lib.bytesWorld_size];omega,fun k hk=>Lib.bytesWorld_at_old w e s k hk⟩
theorem Own8.ygy (w:World)(e:TypeId)(s:ByteArray)(hs:s.size≤maxLen):
 Own8 (Lib.bytesWorld w e s) w.heap.size (.slice (some ⟨w.heap.size,0,none⟩) s.size (grownCap w s.size 0 e)) s.data.toList:=by
 have hge:=grownCap_ge w s.size 0 e
 have hcs:(Lib.bytesCells w e s).size=grownCap w s.size 0 e:=by
  unfold Lib.bytesCells
  have:s.data.size=s.size:=rfl
  simp[this];omega
 refine⟨w.heap.size,_,rfl,Nat.le_refl _,by rw[Lib.bytesWorld_size];omega,hge,grownCap_le_maxLen w s.size 0 e hs,fun i hi=>⟨?_,?_⟩,fun i hi=>?_⟩
 · have h1:=Lib.bytesWorld_at_new w e s
   have h2:i<(Lib.bytesCells w e s).size:=by omega
   simp[World.cell?,h1,h2]
 · have h1:=Lib.bytesWorld_at_new w e s
   simp[World.frozen?,h1]
   intro h;omega
 · rw[Lib.bytesWorld_cell w e s i hi]
   simp[List.getD,List.getElem?_eq_getElem hi]
theorem yfo {B b:Nat}(hb:B≤b){a:World} :∀(vs:List Value) (o:Nat) {w:World},Below B a w→Below B a (w.setCells b o vs)
 | [],_,_,h=>h
 | v::r,o,_,h=>yfo hb r (o+1) (h.setCell (p:=⟨b,o,none⟩) hb v)
theorem yie (b:Nat) :∀(vs:List Value) (o:Nat) (w:World),(w.setCells b o vs).heap.size=w.heap.size
 | [],_,_=>rfl
 | v::r,o,w=>by rw[World.setCells,yie b r];simp[World.setCell]
theorem ykh (c:Array Value)(j:Nat)(h:j<c.size):(c[j]?).isSome=true:=by rw[Array.getElem?_eq_getElem h];rfl
theorem Own8.append {P:Program}{w:World}{base:Nat}{v:Value}{bs:List UInt8}(h:Own8 w base v bs)(t u ty e:TypeId)(i:TypeInfo)
 (ht:P.underlying t=some (.slice e)) (hu:P.underlying u=some .string) (hi:P.info? e=some i) (hz:i.zero=some (.int .u8 0)) (hsize:i.size=1) (hby:i.bytes=1)
 (s:ByteArray) (hbytes:bs.length+s.size≤140737488355328) (hbase:base≤w.heap.size):
 ∃v' w',(Builtin.append_ #[t,u] ty #[v,.string s]).run P w=.ok v' w'∧Own8 w' base v' (bs++s.data.toList)∧Below base w w':=by
 obtain⟨g,cap,rfl,hg,hgs,hn,hm,hw,hc⟩:=h
 have hsl:s.data.toList.length=s.size:=rfl
 by_cases hroom:bs.length+s.size≤cap
 · have hf:=Lib.run_firstCells_string (P:=P) w 1 s
   have hst:=run_storeCells_cells (P:=P) g bs.length (Lib.strCells s) 0 w (fun j hj=>by rw[Lib.strCells_length]at hj;exact(hw _ (by omega)).1)
    (fun j hj=>by rw[Lib.strCells_length]at hj;exact(hw _ (by omega)).2) (Lib.strCells_oneCell s)
   have hrun:(Builtin.append_ #[t,u] ty #[.slice (some ⟨g,0,none⟩) bs.length cap,.string s]).run P w =
    .ok (.slice (some ⟨g,0,none⟩) (bs.length+s.size) cap) (w.setCells g bs.length (Lib.strCells s)):=by
    simp only[Nat.add_zero]at hst
    simp[Builtin.append_,run_underlying ht,run_underlying hu,sizeOf,typeInfo,hi,hsize,Builtin.lenOf,hroom,hf,Addr.add_lit,hst]
   refine⟨_,_,hrun,⟨g,cap,by rw[List.length_append,hsl],hg,by rw[yie];exact hgs,by rw[List.length_append,hsl];exact hroom,hm,fun j hj=>⟨?_,?_⟩,fun j hj=>?_⟩,yfo hg _ _ (Below.refl _ _)⟩
   · by_cases h1:bs.length≤j∧j<bs.length+s.size
     · obtain⟨d,rfl⟩ :∃d,j=bs.length+d:=⟨j-bs.length,by omega⟩
       rw[World.cell?_setCells_in g (Lib.strCells s) bs.length w (fun k hk=>by rw[Lib.strCells_length]at hk;exact(hw _ (by omega)).1) d (by rw[Lib.strCells_length];omega)]
       rfl
     · rw[World.cell?_setCells_out g (Lib.strCells s) bs.length w _ (fun _ _=>by rw[Lib.strCells_length];show j<_∨_≤j;omega)]
       exact(hw j hj).1
   · rw[World.frozen?_setCells];exact(hw j hj).2
   · rw[List.length_append,hsl]at hj
     by_cases h1:j<bs.length
     · rw[World.cell?_setCells_out g (Lib.strCells s) bs.length w _ (fun _ _=>Or.inl h1),List.getElem_append_left h1]
       exact hc j h1
     · obtain⟨d,rfl⟩ :∃d,j=bs.length+d:=⟨j-bs.length,by omega⟩
       rw[World.cell?_setCells_in g (Lib.strCells s) bs.length w (fun k hk=>by rw[Lib.strCells_length]at hk;exact(hw _ (by omega)).1) d (by rw[Lib.strCells_length];omega)]
       simp[Lib.strCells,List.getElem_append_right]
 · have holds :∀j v,(bs.map fun b=>Value.int .u8 (b.toNat:Int))[j]? = some v→w.cell? ((⟨g,0,none⟩:Addr).add j)=some v:=by
    intro j v hj
    have hl:j<bs.length:=by have:=(List.getElem?_eq_some_iff.1 hj).1;simpa using this
    have e:(⟨g,0,none⟩:Addr).add j=⟨g,j,none⟩:=by unfold Addr.add;split <;> simp_all
    rw[e,hc j hl]
    rw[←hj];simp[hl]
   have hcap63:bs.length+s.size≤maxLen:=by unfold maxLen;omega
   have hfit:Builtin.nextslicecap (bs.length+s.size) cap*i.bytes≤281474976710656:=by
    rw[hby,Nat.mul_one]
    have:=nextslicecap_le (need:=bs.length+s.size) (old:=cap) (by omega)
    omega
   have hrun:=Lib.run_append_grow_string (P:=P) w t u ty e i _ ht hu hi hz ⟨g,0,none⟩ bs.length cap (bs.map fun b=>Value.int .u8 (b.toNat:Int)) (by rw[hsize];simp) holds s (by omega) (by omega) hfit
   have hge:=grownCap_ge w (bs.length+s.size) cap e
   have hcm:=grownCap_le_maxLen w (bs.length+s.size) cap e hcap63
   refine⟨_,_,hrun,⟨w.heap.size,_,by rw[List.length_append,hsl],hbase,by simp,by rw[List.length_append,hsl];exact hge,hcm,fun j hj=>⟨?_,?_⟩,fun j hj=>?_⟩,(Below.refl _ _).drew.alloc hbase _⟩
   · rw[World.cell?_alloc_at _ _ _ _ (show w.heap.size=w.drew.heap.size from rfl)]
     refine ykh _ _ ?_
     have hsz:(Value.int IntKind.u8 0).cells.size=1:=rfl
     simp only[Array.size_append,List.size_toArray,size_zeroCells,hsz,Lib.strCells_length,List.length_map]
     omega
   · exact World.frozen?_alloc_at _ _ _ _ (show w.heap.size=w.drew.heap.size from rfl)
   · rw[World.cell?_alloc_at _ _ _ _ (show w.heap.size=w.drew.heap.size from rfl)]
     have hjl:=hj
     rw[List.length_append,hsl]at hjl
     rw[Array.getElem?_append_left (by simp[Lib.strCells_length];omega)]
     by_cases h1:j<bs.length
     · rw[Array.getElem?_append_left (by simp;omega)]
       simp[h1]
     · obtain⟨d,rfl⟩ :∃d,j=bs.length+d:=⟨j-bs.length,by omega⟩
       rw[Array.getElem?_append_right (by simp)]
       simp only[List.size_toArray,List.length_map,Nat.add_sub_cancel_left,List.getElem?_toArray]
       rw[List.getElem?_eq_getElem (by rw[Lib.strCells_length];omega)]
       simp[Lib.strCells,List.getElem_append_right]
theorem Own8.text {P:Program}{w:World}{base:Nat}{v:Value}{bs:List UInt8}(h:Own8 w base v bs)(src e:TypeId)(hs:P.underlying src=some (.slice e))(he:P.underlying e=some (.int .u8))
 (dst:TypeId) (hd:P.underlying dst=some .string):(convert src dst v).run P w=.ok (.string ⟨bs.toArray⟩) w:=by
 obtain⟨g,cap,rfl,hg,hgs,hn,hm,hw,hc⟩:=h
 have hr:=run_convert_bytes_arg (P:=P) w src e hs he g 0 bs.length cap (bs.map fun b=>(b.toNat:Int)) (by simp) (fun i hi=>by
  rw[Nat.zero_add,hc i hi];simp[List.getD,hi]) dst hd
 rw[hr]
 congr 2
 unfold strOfNums
 congr 2
 rw[List.map_map]
 conv=>rhs;rw[←List.map_id bs]
 apply List.map_congr_left
 intro b _
 simp
theorem yhl {P:Program}(w:World){ops:Array Oper}{rest:List Oper}{o:Oper}{a:Act}{Q:Exit→Act→World→Prop}(hgd:o.guard=none)(s x:Operand)(t t':TypeId)
 (ho:o.op=.call { callee:=.builtin .append,args:=#[s,x],argTypes:=#[t,t'] }) (v u:Value) (hs:a.eval s=v) (hx:a.eval x=u) {v':Value}{w':World}
 (hr:(Builtin.append_ #[t,t'] o.type #[v,u]).run P w=.ok v' w') (h:wpList P ops Q rest (a.put o.dst v') w'):wpList P ops Q (o::rest) a w:=by
 refine wpList_plain hgd fun K hK=>?_
 unfold Oper.wp execOp
 simp only[ho,resolve,invoke,builtin,Sem.run_bind,Sem.run_pure,Result.andThen_ok,List.map_toArray,List.map_cons,List.map_nil,hs,hx,hr]
 exact hK _ _ h
end
section
open Go.RowKit
theorem yc0 (s:ByteArray)(p:Int)(w:World)(hs:s.size≤140737488351232):
 Calls Tryz.prog 138 #[.string s,.int .i64 p] w fun e w'=>
  e=.returned (.tuple #[S (Oct.rdText s.data.toList p).1,.int .i64 (Oct.rdText s.data.toList p).2.1,.int .i64 (Oct.rdText s.data.toList p).2.2])∧w=w':=by
 rcases hn:Oct.rdNum s.data.toList p with⟨n,q,e⟩
 have hok:=Oct.yce hn
 have hv:rdNumV s p=three n q e:=by unfold rdNumV;rw[hn]
 by_cases he:e≠0
 · have hr:Oct.rdText s.data.toList p=([],0,e):=by unfold Oct.rdText;rw[hn];simp only;rw[if_pos he]
   rw[hr]
   have hd:(e != 0)=true:=by rw[bne_iff_ne];exact he
   clear he hr hok
   have Hv:=yh hv;clear hv hn
   go_enter Tryz.func138,Tryz.ntmps138
   go_wp2_with fail
   refine(ybd s p _ hs).mono ?_
   rintro e w1 ⟨rfl,rfl⟩
   rw[Hv.out]
   unfold three
   go_wp2
   go_ret3
   exact⟨rfl,rfl⟩
 · obtain rfl:e=0:=by omega
   rcases hok with h|⟨_,hp,hn0,hn1,hpq,hq,_⟩
   · exact absurd h.1 he
   have hlen:=Oct.ya9 s
   by_cases h6:65536<n
   · have hr:Oct.rdText s.data.toList p=([],0,3):=by unfold Oct.rdText;rw[hn];simp only;rw[if_neg he,if_pos h6]
     rw[hr]
     have hd:decide (65536<n)=true:=by simpa using h6
     clear he hr
     have Hv:=yh hv;clear hv hn
     go_enter Tryz.func138,Tryz.ntmps138
     go_wp2_with fail
     refine(ybd s p _ hs).mono ?_
     rintro e w1 ⟨rfl,rfl⟩
     rw[Hv.out]
     unfold three
     go_wp2
     go_ret3
     exact⟨rfl,rfl⟩
   have hd:decide (65536<n)=false:=by simpa using h6
   rw[hlen]at hq
   by_cases h7:(s.size:Int)-q<n
   · have hr:Oct.rdText s.data.toList p=([],0,5):=by unfold Oct.rdText;rw[hn];simp only;rw[if_neg he,if_neg h6,hlen,if_pos h7]
     rw[hr]
     have hd2:decide ((s.size:Int)<q+n)=true:=by simp;omega
     clear he hr
     have Hv:=yh hv;clear hv hn
     go_enter Tryz.func138,Tryz.ntmps138
     go_wp2_with fail
     refine(ybd s p _ hs).mono ?_
     rintro e w1 ⟨rfl,rfl⟩
     rw[Hv.out]
     unfold three
     go_wp2
     go_ret3
     exact⟨rfl,rfl⟩
   · have hr:Oct.rdText s.data.toList p=((s.data.toList.drop q.toNat).take n.toNat,q+n,0):=by unfold Oct.rdText;rw[hn];simp only;rw[if_neg he,if_neg h6,hlen,if_neg h7]
     rw[hr]
     have hd2:decide ((s.size:Int)<q+n)=false:=by simp;omega
     have hq0:0≤q:=by omega
     obtain⟨k,rfl⟩:=Int.eq_ofNat_of_zero_le hq0
     obtain⟨m,rfl⟩:=Int.eq_ofNat_of_zero_le hn0
     clear he hr
     have Hv:=yh hv;clear hv hn
     have hsl:=yek (P:=Tryz.prog) 9 Tryz.underlying9 s k m (by omega)
     go_enter Tryz.func138,Tryz.ntmps138
     go_wp2_with fail
     refine(ybd s p _ hs).mono ?_
     rintro e w1 ⟨rfl,rfl⟩
     rw[Hv.out]
     unfold three
     go_wp2
     go_ret3
     exact⟨rfl,rfl⟩
theorem ygm (s:ByteArray)(p:Int)(w:World)(hs:s.size≤140737488351232):
 Calls Tryz.prog 104 #[.string s,.int .i64 p] w (ListEnds w s.data.toList p):=by
 obtain⟨i0,hi,hz0,hz1,hz2⟩:=info_parts yd7
 have Hi:=yh hi;clear hi
 have Hz0:=yh hz0;clear hz0
 have Hz1:=yh hz1;clear hz1
 have Hz2:=yh hz2;clear hz2
 rcases hn:Oct.rdNum s.data.toList p with⟨n,q,e⟩
 have hok:=Oct.yce hn
 have hv:rdNumV s p=three n q e:=by unfold rdNumV;rw[hn]
 have hnil :∀W:World,TextsV W (.slice none 0 0) []:=fun W=>⟨none,0,rfl,fun h=>absurd rfl h⟩
 by_cases he:e≠0
 · have hr:Oct.rdList s.data.toList p=([],0,e):=by unfold Oct.rdList;rw[hn];simp only;rw[if_pos he]
   unfold ListEnds
   rw[hr]
   have hd:(e != 0)=true:=by rw[bne_iff_ne];exact he
   clear he hr hok
   have Hv:=yh hv;clear hv hn
   go_enter Tryz.func104,Tryz.ntmps104
   go_wp2_with fail
   refine(ybd s p _ hs).mono ?_
   rintro e w1 ⟨rfl,rfl⟩
   rw[Hv.out]
   unfold three
   go_wp2
   go_ret3
   exact⟨_,rfl,hnil _,Below.refl _ _⟩
 · obtain rfl:e=0:=by omega
   rcases hok with h|⟨_,hp,hn0,hn1,hpq,hq,_⟩
   · exact absurd h.1 he
   by_cases h6:1024<n
   · have hr:Oct.rdList s.data.toList p=([],0,3):=by unfold Oct.rdList;rw[hn];simp only;rw[if_neg he,if_pos h6]
     unfold ListEnds
     rw[hr]
     have hd:decide (1024<n)=true:=by simpa using h6
     clear he hr
     have Hv:=yh hv;clear hv hn
     go_enter Tryz.func104,Tryz.ntmps104
     go_wp2_with fail
     refine(ybd s p _ hs).mono ?_
     rintro e w1 ⟨rfl,rfl⟩
     rw[Hv.out]
     unfold three
     go_wp2
     go_ret3
     exact⟨_,rfl,hnil _,Below.refl _ _⟩
   have hd:decide (1024<n)=false:=by simpa using h6
   obtain⟨m,rfl⟩:=Int.eq_ofNat_of_zero_le hn0
   have hr:Oct.rdList s.data.toList p=finish (Oct.rdGo s.data.toList m 65536 q):=by
    unfold Oct.rdList;rw[hn];simp only;rw[if_neg he,if_neg h6,Int.toNat_natCast]
    cases Oct.rdGo s.data.toList m 65536 q <;> rfl
   have hlen:=Oct.ya9 s
   rw[hlen]at hq
   have Hr:=yh hr
   have Hv:=yh hv
   clear hv hn he hr hlen
   go_enter Tryz.func104,Tryz.ntmps104
   go_wp2_with fail
   refine(ybd s p _ hs).mono ?_
   rintro e w1 ⟨rfl,rfl⟩
   rw[Hv.out]
   unfold three
   go_wp2_with fail
   go_loopw [8,11,10,12] (fun at_ sum v i wr =>∃(k:Nat) (acc:List (List UInt8)) (lf:Nat) (b:Int),k≤m∧acc.length=k∧lf≤65536∧0≤b∧b≤s.size∧i=.int .i64 k∧at_=.int .i64 b∧sum=.int .i64 (65536-(lf:Int))∧
    wr.ownsRow w.heap.size 9 1 v acc.length (acc.map S)∧Below w.heap.size w wr∧Oct.rdGo s.data.toList m 65536 q=more acc (Oct.rdGo s.data.toList (m-k) lf b)) (fun _ _ _ i _=>m-(intOf i).toNat)
   case atStart=>exact⟨0,[],65536,q,by omega,rfl,by omega,by omega,hq,rfl,rfl,rfl,World.ownsRow_nil _ _ _ _,Below.refl _ _,by rw[yi1,Nat.sub_zero]⟩
   case round=>
    obtain⟨k,acc,lf,b,hk,hacc,hlf,hb0,hb1,rfl,rfl,rfl,hown,hbel,hrem⟩:=hrel
    have Hacc:=yh hacc
    have Hrem:=yh hrem
    clear hacc hrem
    by_cases hlt:k<m
    · rcases ht:Oct.rdText s.data.toList b with⟨t,b2,e2⟩
      have hok:=Oct.yew ht
      have Ht:=yh ht
      clear ht
      obtain⟨j,hj⟩ :∃j,m-k=j+1:=⟨m-k-1,by omega⟩
      have hrem:=Hrem.out
      rw[hj]at hrem
      by_cases he2:e2≠0
      · have hfin:Oct.rdList s.data.toList p=([],0,e2):=by rw[Hr.out,hrem,yi2 Ht.out he2];rfl
        have Hfin:=yh hfin
        have hd:(e2 != 0)=true:=by rw[bne_iff_ne];exact he2
        clear hfin hrem hj hok he2
        go_wp2_with fail
        refine(yc0 s b _ hs).mono ?_
        rintro e w1 ⟨rfl,rfl⟩
        rw[Ht.out]
        go_wp2_with fail
        go_ret3
        unfold ListEnds
        rw[Hfin.out]
        exact⟨_,rfl,hnil _,hbel⟩
      obtain rfl:e2=0:=by omega
      rcases hok with h|⟨_,_,ht64,hbb,hb2s,_⟩
      · exact absurd h.1 he2
      rw[Oct.ya9]at hb2s
      by_cases hbig:lf<t.length
      · have hfin:Oct.rdList s.data.toList p=([],0,3):=by rw[Hr.out,hrem,yi3 Ht.out hbig];rfl
        have Hfin:=yh hfin
        have hd1:decide ((65536:Int)<65536-(lf:Int)+(t.length:Int))=true:=by simp;omega
        clear hfin hrem hj he2
        go_wp2_with fail
        refine(yc0 s b _ hs).mono ?_
        rintro e w1 ⟨rfl,rfl⟩
        rw[Ht.out]
        go_wp2_with fail
        go_ret3
        unfold ListEnds
        rw[Hfin.out]
        exact⟨_,rfl,hnil _,hbel⟩
      · rw[yg2 Ht.out hbig]at hrem
        have hj':j=m-(k+1):=by omega
        subst hj'
        have Hrem2:=yh hrem
        have hd1:decide ((65536:Int)<65536-(lf:Int)+(t.length:Int))=false:=by simp;omega
        clear hrem hj he2
        go_wp2_with fail
        refine(yc0 s b _ hs).mono ?_
        rintro e w1 ⟨rfl,rfl⟩
        rw[Ht.out]
        have hown1:=hown.alloc (.cells #[S t] 9)
        have hal:=Hacc.out
        have hbel1:=hbel.alloc hbel.size (.cells #[S t] 9)
        have hsz:=hbel1.size
        have c3:acc.length+1≤maxLen:=by unfold maxLen;omega
        have c4:(acc.length+1)*16≤140737488355328:=by omega
        have hc1:=yh4 wr 9 (S t)
        have Hown1:=yh hown1
        have Hc1:=yh hc1
        clear hown hown1 hc1 hal
        go_wp2_with (at_builtin;refine wpList_append_own _ rfl (.tmp 49) (.tmp 51) _ rfl w.heap.size 9 i0 _ 1 16 Tryz.underlying56 Hi.out Hz0.out Hz1.out Hz2.out rfl (by decide) u10 acc.length (acc.map S) rfl Hown1.out ⟨wr.heap.size,0,none⟩ 1 1 [S t] rfl rfl Hc1.out (by simp[Value.oneCell']) c3 c4 hsz ?_;intro v2 w2 hown2 hgr2 _)
        refine⟨⟨k+1,acc ++ [t],lf-t.length,b2,by omega,by rw[List.length_append,Hacc.out];rfl,by omega,by omega,hb2s,by go_num,rfl,?_,?_,hbel1.grown hgr2 hsz (fun g hg=>(Hown1.out.lt g hg).1),Hrem2.out⟩,by simp[intOf];omega⟩
        · congr 1;omega
        · simpa using hown2
    · obtain rfl:k=m:=by omega
      have hfin:Oct.rdList s.data.toList p=(acc,b,0):=by rw[Hr.out,Hrem.out,Nat.sub_self];simp[Oct.rdGo,more,finish]
      have Hfin:=yh hfin
      have Hown:=yh hown
      clear hfin hown
      go_wp2_with fail
      go_ret3
      unfold ListEnds
      rw[Hfin.out]
      exact⟨_,rfl,ycy Hown.out,hbel⟩
end
section
open Go.RowKit
theorem ygn (A:Option Addr)(c:Nat)(L:List (List UInt8))(w:World)(hr:Texts w w.heap.size A L):
 Calls Tryz.prog 133 #[.slice A L.length c] w fun e w'=>e=.returned (two (Oct.listE L).1 (Oct.listE L).2)∧Below w.heap.size w w':=by
 obtain⟨i0,hi,hz0,hz1,hz2⟩:=info_parts yip
 have Hi:=yh hi;clear hi
 have Hz0:=yh hz0;clear hz0
 have Hz1:=yh hz1;clear hz1
 have Hz2:=yh hz2;clear hz2
 by_cases hbig:1024<L.length
 · have e:Oct.listE L=([],3):=by unfold Oct.listE;rw[if_pos hbig]
   rw[e]
   have hd:decide ((1024:Int)<(L.length:Int))=true:=by simp;omega
   have hd2:decide (1024<L.length)=true:=by simp;omega
   clear e
   go_enter Tryz.func133,Tryz.ntmps133
   go_wp2_with fail
   go_ret2
   exact⟨rfl,Below.refl _ _⟩
 · have hlist:Oct.listE L=laid (Oct.num L.length) (Oct.listGo 65536 L):=by
    unfold Oct.listE;rw[if_neg hbig]
    cases Oct.listGo 65536 L <;> rfl
   have hd:decide ((1024:Int)<(L.length:Int))=false:=by simp;omega
   have hd2:decide (1024<L.length)=false:=by simp;omega
   have Hlist:=yh hlist
   clear hlist
   have en:Oct.numE (L.length:Int)=(Oct.num L.length,0):=by unfold Oct.numE;rw[if_neg (by omega),Int.toNat_natCast]
   have En:=yh en
   clear en
   go_enter Tryz.func133,Tryz.ntmps133
   go_wp2_with fail
   refine(ycu _ _ (by omega)).mono ?_
   rintro e w1 ⟨rfl,hb1⟩
   rw[En.out]
   unfold two
   have hcv:=Lib.run_convert_string_bytes (P:=Tryz.prog) w1 9 85 5 ⟨(Oct.num L.length).toArray⟩ Tryz.underlying9 Tryz.underlying85 Tryz.underlying5
   have ho:=Own8.ygy w1 5 ⟨(Oct.num L.length).toArray⟩ (by have:=Oct.yay L.length;show (Oct.num L.length).length≤maxLen;unfold maxLen;omega)
   have hb2:=hb1.trans ((yl6 w1 5 ⟨(Oct.num L.length).toArray⟩).mono hb1.size)
   have ho2:Own8 (Lib.bytesWorld w1 5 ⟨(Oct.num L.length).toArray⟩) w.heap.size (.slice (some ⟨w1.heap.size,0,none⟩) (⟨(Oct.num L.length).toArray⟩:ByteArray).size (grownCap w1 (⟨(Oct.num L.length).toArray⟩:ByteArray).size 0 5)) (Oct.num L.length ++ []):=by
    obtain⟨g,cap,h1,h2,h3⟩:=ho
    rw[List.append_nil]
    exact⟨g,cap,h1,Nat.le_trans hb1.size h2,h3⟩
   have Ho2:=yh ho2
   clear ho ho2
   go_wp2_with fail
   go_loopw [7,6,8] (fun sum v i wr =>∃(k lf:Nat) (a:List UInt8),k≤L.length∧lf≤65536∧i=.int .i64 k∧sum=.int .i64 (65536-(lf:Int))∧
    Own8 wr w.heap.size v (Oct.num L.length++a)∧Below w.heap.size w wr∧Oct.listGo 65536 L=inFront a (Oct.listGo lf (L.drop k))∧(Oct.num L.length++a).length+lf≤9+9*k+65536) (fun _ _ i _=>L.length-(intOf i).toNat)
   case atStart=>
    refine⟨0,65536,[],by omega,by omega,rfl,rfl,Ho2.out,hb2,?_,?_⟩
    · rw[List.drop_zero];unfold inFront;cases Oct.listGo 65536 L <;> simp
    · have:=Oct.yay L.length
      simp;omega
   case round=>
    obtain⟨k,lf,a,hk,hlf,rfl,rfl,hown,hbel,hrem,hlen⟩:=hrel
    have Hrem:=yh hrem
    have Hown:=yh hown
    have Hlen:=yh hlen
    clear hrem hown hlen hcv hb2
    by_cases hlt:k<L.length
    · obtain⟨b,off,rfl,hbb,hc⟩:=hr (by rintro rfl;simp at hlt)
      have hck:=(hbel.cell (p:=⟨b,off+k,none⟩) hbb).trans (hc k hlt)
      clear hc
      by_cases hbg:lf<L[k].length
      · have hfin:Oct.listE L=([],3):=by rw[Hlist.out,Hrem.out,yfn hlt hbg];rfl
        have Hfin:=yh hfin
        have hd3:decide ((65536:Int)-(65536-(lf:Int))<(L[k].length:Int))=true:=by simp;omega
        clear hfin
        go_wp2_with fail
        go_ret2
        rw[Hfin.out]
        exact⟨rfl,hbel⟩
      · have hrem2:=Hrem.out
        rw[yfm hlt hbg]at hrem2
        have Hrem2:=yh hrem2
        have hd3:decide ((65536:Int)-(65536-(lf:Int))<(L[k].length:Int))=false:=by simp;omega
        have hsub:(L[k].length:Int)≤lf:=by omega
        have htE:Oct.textE L[k]=(Oct.text L[k],0):=by unfold Oct.textE;rw[if_neg (by omega)]
        have HtE:=yh htE
        clear hrem2 htE
        go_wp2_with fail
        refine(yle _ _).mono ?_
        rintro e w3 ⟨rfl,hb3⟩
        rw[show (⟨L[k].toArray⟩:ByteArray).data.toList=L[k] from rfl,HtE.out]
        unfold two
        have hbel3:=hbel.trans (hb3.mono hbel.size)
        have htl:(Oct.text L[k]).length≤9+L[k].length:=by unfold Oct.text;have:=Oct.yay L[k].length;rw[List.length_append];omega
        have hl1:=Hlen.out
        obtain⟨v4,w4,hrun,hown4,hb4⟩:=(Hown.out.below hb3).append (P:=Tryz.prog) 85 9 85 5 i0 Tryz.underlying85 Tryz.underlying9 Hi.out Hz0.out Hz1.out Hz2.out ⟨(Oct.text L[k]).toArray⟩ (by show (Oct.num L.length++a).length+(Oct.text L[k]).length≤_;omega) hbel3.size
        have Hown4:=yh hown4
        have Htl:=yh htl
        have Hrun:=yh hrun
        clear hown4 htl hl1 hrun
        go_wp2_with (at_builtin;refine yhl _ rfl (.tmp 51) (.tmp 52) _ _ rfl _ _ rfl rfl Hrun.out ?_)
        refine⟨⟨k+1,lf-L[k].length,a++Oct.text L[k],by omega,by omega,by go_num,?_,?_,hbel3.trans hb4,Hrem2.out,?_⟩,by simp[intOf];omega⟩
        · congr 1;omega
        · have:=Hown4.out
          rwa[List.append_assoc]at this
        · have h1:=Hlen.out
          have h2:=Htl.out
          rw[List.length_append]at h1 ⊢
          rw[List.length_append]
          omega
    · obtain rfl:k=L.length:=by omega
      have hfin:Oct.listE L=(Oct.num L.length++a,0):=by
       rw[Hlist.out,Hrem.out,List.drop_length]
       simp[Oct.listGo,inFront,laid]
      have Hfin:=yh hfin
      have hcv2:=Hown.out.text (P:=Tryz.prog) 85 5 Tryz.underlying85 Tryz.underlying5 9 Tryz.underlying9
      clear hfin
      go_wp2_with fail
      go_ret2
      rw[Hfin.out]
      exact⟨rfl,hbel⟩
end
end Go.Proofs.YtalfnadejpmjnaaGreatDoor
