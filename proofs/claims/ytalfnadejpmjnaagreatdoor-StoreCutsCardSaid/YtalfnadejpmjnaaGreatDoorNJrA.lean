/- A part. -/
import Derived.Test.YtalfnadejpmjnaaGreatDoorNDk
import Derived.Laws.Concat
set_option linter.unusedVariables false
set_option linter.unusedSimpArgs false
set_option maxRecDepth 100000
set_option maxHeartbeats 25600000
namespace Go.Proofs.YtalfnadejpmjnaaGreatDoor.Jn
section
namespace Cr
def shift (x:Nat):Nat:=if x%2=0 then x / 2 else x / 2 ^^^ 3988292384
def shifts:Nat→Nat→Nat
 | 0,x=>x
 | k+1,x=>shift (shifts k x)
def byte (x:Nat)(b:UInt8):Nat:=shifts 8 (x ^^^ b.toNat)
def regs (x:Nat)(l:List UInt8):Nat:=l.foldl byte x
def sum (l:List UInt8):Nat:=4294967295-regs 4294967295 l
def four (x:Nat):List UInt8:=[UInt8.ofNat (x / 16777216%256),UInt8.ofNat (x / 65536%256),UInt8.ofNat (x / 256%256),UInt8.ofNat (x%256)]
theorem ydc {a b:Nat}(ha:a<4294967296)(hb:b<4294967296):a ^^^ b<4294967296:=Nat.xor_lt_two_pow (n:=32) ha hb
theorem ysn {x:Nat}(h:x<4294967296):shift x<4294967296:=by
 unfold shift
 split
 · omega
 · exact ydc (by omega) (by omega)
theorem yjr {x:Nat}(h:x<4294967296)(k:Nat):shifts k x<4294967296:=by
 induction k with
 | zero=>exact h
 | succ k ih=>exact ysn ih
theorem yu6 {x:Nat}(h:x<4294967296)(b:UInt8):byte x b<4294967296:=yjr (ydc h (by have:=b.toNat_lt;omega)) 8
theorem yuh {x:Nat}(h:x<4294967296)(l:List UInt8):regs x l<4294967296:=by
 induction l generalizing x with
 | nil=>exact h
 | cons b r ih=>exact ih (yu6 h b)
theorem sum_lt (l:List UInt8):sum l<4294967296:=by unfold sum;omega
theorem ysv (x:Nat)(a b:List UInt8):regs x (a++b)=regs (regs x a) b:=List.foldl_append
end Cr
end
section
namespace Jr
def sumB (i:Nat)(s:List UInt8):List UInt8:=Cr.four (Cr.sum (Oct.num i++s))
def lay (i:Nat)(s:List UInt8):List UInt8:=Oct.num s.length++(sumB i s++s)
theorem yfu (i:Nat)(s:List UInt8):(sumB i s).length=4:=rfl
theorem yg5 (i:Nat)(s:List UInt8):(lay i s).length=(Oct.num s.length).length+4+s.length:=by
 unfold lay
 simp only[List.length_append,yfu];omega
theorem yi7 (i:Nat)(s:List UInt8):5≤(lay i s).length:=by
 have:=Oct.yhq s.length
 rw[yg5];omega
theorem lay_le (i:Nat)(s:List UInt8):(lay i s).length≤s.length+13:=by
 have:=Oct.yay s.length
 rw[yg5];omega
def rd (s:List UInt8)(p i:Nat):Option (List UInt8×Nat):=
 if (Oct.rdNum s p).2.2≠0 then none else
 if 4096<(Oct.rdNum s p).1 then none else
 if (s.length:Int)-(Oct.rdNum s p).2.1<4+(Oct.rdNum s p).1 then none else
 if (s.drop (Oct.rdNum s p).2.1.toNat).take 4≠sumB i ((s.drop ((Oct.rdNum s p).2.1.toNat+4)).take (Oct.rdNum s p).1.toNat) then none else
 some ((s.drop ((Oct.rdNum s p).2.1.toNat+4)).take (Oct.rdNum s p).1.toNat,(Oct.rdNum s p).2.1.toNat+4+(Oct.rdNum s p).1.toNat)
theorem ylh {s r:List UInt8}{p i b:Nat}(h:rd s p i=some (r,b)):s.drop p=lay i r++s.drop b∧b=p+(lay i r).length∧b≤s.length∧r.length≤4096:=by
 unfold rd at h
 rcases hn:Oct.rdNum s p with⟨n,q,e⟩
 rw[hn]at h
 simp only at h
 split at h
 · cases h
 rename_i he
 split at h
 · cases h
 rename_i hbig
 split at h
 · cases h
 rename_i hsh
 split at h
 · cases h
 rename_i hs
 rcases Oct.yce hn with hbad|⟨_,hp,hn0,hn1,hq,hql,htk⟩
 · exact absurd hbad.1 he
 obtain⟨N,rfl⟩ :∃N:Nat,n=(N:Int):=⟨n.toNat,by omega⟩
 obtain⟨Q,rfl⟩ :∃Q:Nat,q=(Q:Int):=⟨q.toNat,by omega⟩
 simp only[Int.toNat_natCast]at h hs htk
 have hs':(s.drop Q).take 4=sumB i ((s.drop (Q+4)).take N):=Classical.not_not.1 hs
 injection h with h
 injection h with h1 h2
 have hrl:r.length=N:=by rw[←h1,List.length_take,List.length_drop];omega
 have hpq:(((Q:Int)-(p:Int)).toNat)=Q-p:=by omega
 rw[hpq]at htk
 have hnl:(Oct.num N).length=Q-p:=by rw[←htk,List.length_take,List.length_drop];omega
 have e1:s.drop p=Oct.num N++s.drop Q:=by
  have:=(List.take_append_drop (Q-p) (s.drop p)).symm
  rw[htk,List.drop_drop,show p+(Q-p)=Q by omega]at this
  exact this
 have e2:s.drop Q=sumB i r++s.drop (Q+4):=by
  have:=(List.take_append_drop 4 (s.drop Q)).symm
  rw[hs',List.drop_drop,h1]at this
  exact this
 have e3:s.drop (Q+4)=r++s.drop b:=by
  have:=(List.take_append_drop N (s.drop (Q+4))).symm
  rw[h1,List.drop_drop,h2]at this
  exact this
 refine⟨?_,?_,by omega,by omega⟩
 · unfold lay
   rw[e1,e2,e3,hrl];simp
 · rw[yg5,hrl,hnl];omega
theorem rd_lay (a x r:List UInt8)(i:Nat)(hr:r.length≤4096):rd (a++lay i r++x) a.length i=some (r,a.length+(lay i r).length):=by
 have hn:=Oct.yp7 a (sumB i r++r++x) r.length (by omega)
 have e1:a++Oct.num r.length++(sumB i r++r++x)=a++lay i r++x:=by unfold lay;simp
 rw[e1]at hn
 have hd1:(a++lay i r++x).drop (a.length+(Oct.num r.length).length)=sumB i r++r++x:=by
  rw[←e1,←List.length_append,List.drop_left]
 have hd2:(a++lay i r++x).drop (a.length+(Oct.num r.length).length+4)=r++x:=by
  rw[←List.drop_drop,hd1,List.append_assoc,show (4:Nat)=(sumB i r).length from rfl,List.drop_left]
 have hlen:(a++lay i r++x).length=a.length+(Oct.num r.length).length+4+r.length+x.length:=by
  rw[List.length_append,List.length_append,yg5];omega
 unfold rd
 rw[hn]
 simp only
 rw[if_neg (by simp),if_neg (by omega),if_neg (by rw[hlen];omega),Int.toNat_natCast,Int.toNat_natCast,hd1,hd2,List.take_left,if_neg (by
  rw[List.append_assoc,List.take_append_of_le_length (by rw[yfu];omega),List.take_of_length_le (by rw[yfu];omega)];simp)]
 rw[yg5]
 congr 1
 congr 1
 omega
def parseF (s:List UInt8):Nat→Nat→List (List UInt8)→List (List UInt8)×Nat
 | 0,p,acc=>(acc,p)
 | f+1,p,acc=>
   match rd s p acc.length with
   | none=>(acc,p)
   | some (r,b)=>parseF s f b (acc ++ [r])
def parse (s:List UInt8):List (List UInt8)×Nat:=parseF s s.length 0 []
def Upto (s:List UInt8)(p:Nat)(acc:List (List UInt8)):Prop:=p≤s.length∧∃f,s.length-p≤f∧parseF s f p acc=parse s
theorem Upto.start (s:List UInt8):Upto s 0 []:=⟨Nat.zero_le _,s.length,by omega,rfl⟩
theorem Upto.stop {s:List UInt8}{p:Nat}{acc:List (List UInt8)}(h:Upto s p acc)(hr:rd s p acc.length=none):parse s=(acc,p):=by
 obtain⟨_,f,_,h2⟩:=h
 rw[←h2]
 cases f with
 | zero=>rfl
 | succ f=>
   unfold parseF
   rw[hr]
theorem Upto.go {s:List UInt8}{p b:Nat}{acc:List (List UInt8)}{r:List UInt8}(h:Upto s p acc)(hr:rd s p acc.length=some (r,b)):Upto s b (acc ++ [r])∧p<b∧b≤s.length:=by
 obtain⟨h1,f,h3,h2⟩:=h
 obtain⟨_,hb,hbl,_⟩:=ylh hr
 have:=yi7 acc.length r
 refine⟨⟨hbl,?_⟩,by omega,hbl⟩
 cases f with
 | zero=>omega
 | succ f=>
   refine⟨f,by omega,?_⟩
   rw[←h2]
   conv=>rhs;unfold parseF
   rw[hr]
def lays (i:Nat):List (List UInt8)→List UInt8
 | []=>[]
 | r::l=>lay i r++lays (i+1) l
theorem yi6 (i:Nat)(a b:List (List UInt8)):lays i (a++b)=lays i a++lays (i+a.length) b:=by
 induction a generalizing i with
 | nil=>simp[lays]
 | cons r a ih=>simp[lays,ih,Nat.add_assoc,Nat.add_comm 1]
theorem Upto.all {s:List UInt8}(L:List (List UInt8))(hL :∀r∈L,r.length≤4096) :∀(a x:List UInt8) (acc:List (List UInt8)),s=a++lays acc.length L++x→Upto s a.length acc→Upto s (a++lays acc.length L).length (acc++L):=by
 induction L with
 | nil=>intro a x acc hs h;simpa[lays] using h
 | cons r L ih=>
   intro a x acc hs h
   have hr:rd s a.length acc.length=some (r,a.length+(lay acc.length r).length):=by
    have:=rd_lay a (lays (acc.length+1) L++x) r acc.length (hL r (by simp))
    rw[hs]
    simp only[lays]at *
    simpa[List.append_assoc] using this
   have h2:=(h.go hr).1
   have h3:=ih (fun q hq=>hL q (by simp[hq])) (a++lay acc.length r) x (acc ++ [r]) (by rw[hs];simp[lays]) (by rw[List.length_append];exact h2)
   simp only[lays,List.length_append,List.length_cons,List.length_nil]at h3 ⊢
   simpa[List.append_assoc,Nat.add_assoc] using h3
theorem lays_len_le (i:Nat)(L:List (List UInt8))(hL :∀r∈L,r.length≤4096):(lays i L).length≤4109*L.length:=by
 induction L generalizing i with
 | nil=>simp[lays]
 | cons r L ih=>
   have h1:=lay_le i r
   have h2:=hL r (by simp)
   have h3:=ih (i+1) (fun q hq=>hL q (by simp[hq]))
   simp only[lays,List.length_append,List.length_cons]
   omega
theorem ys2 (s:List UInt8):s.take (parse s).2=lays 0 (parse s).1∧(parse s).2≤s.length∧∀r∈(parse s).1,r.length≤4096:=by
 have key :∀(f p:Nat) (acc:List (List UInt8)),p≤s.length→s.take p=lays 0 acc→(∀r∈acc,r.length≤4096)→s.take (parseF s f p acc).2=lays 0 (parseF s f p acc).1∧(parseF s f p acc).2≤s.length∧∀r∈(parseF s f p acc).1,r.length≤4096:=by
  intro f
  induction f with
  | zero=>intro p acc hp h hr;exact⟨h,hp,hr⟩
  | succ f ih=>
    intro p acc hp h hr
    unfold parseF
    rcases hx:rd s p acc.length with _|⟨r,b⟩
    · exact⟨h,hp,hr⟩
    · obtain⟨h1,h2,h3,h4⟩:=ylh hx
      refine ih b (acc ++ [r]) h3 ?_ ?_
      · rw[yi6,←h,h2,List.take_add]
        congr 1
        rw[h1,show lays (0+acc.length) [r]=lay acc.length r by simp[lays],List.take_left]
      · intro q hq
        rcases List.mem_append.1 hq with hq|hq
        · exact hr q hq
        · simp at hq;subst hq;exact h4
 exact key s.length 0 [] (Nat.zero_le _) rfl (by simp)
end Jr
end
section
namespace Jr
abbrev nj:List UInt8:=[108,111,103]
abbrev nx:List UInt8:=[108,111,103,120]
def St (o x:Option (List UInt8×Int)):List Fl:=(match o with|none=>[]|some p=>[⟨nj,p.1,p.2⟩])++(match x with|none=>[]|some p=>[⟨nx,p.1,p.2⟩])
def by_ (o:Option (List UInt8×Int)):List UInt8:=match o with|none=>[]|some p=>p.1
def sf (o:Option (List UInt8×Int)):Int:=match o with|none=>0|some p=>p.2
theorem lt_jx:nj<nx:=by decide
theorem ytv:Disk.word nj=true:=by decide
theorem word_x:Disk.word nx=true:=by decide
theorem not_xj :¬nx<nj:=by decide
theorem ymz (o x:Option (List UInt8×Int)):Fl.find (St o x) nj=o.map fun p=>⟨nj,p.1,p.2⟩:=by
 cases o <;> cases x <;> simp[St,Fl.ybs,Fl.yc8]
theorem ykl (o x:Option (List UInt8×Int)):Fl.find (St o x) nx=x.map fun p=>⟨nx,p.1,p.2⟩:=by
 cases o <;> cases x <;> simp[St,Fl.ybs,Fl.yc8]
theorem yuj (o x:Option (List UInt8×Int))(b:List UInt8)(s:Int):Fl.put (St o x) ⟨nj,b,s⟩=St (some (b,s)) x:=by
 cases o <;> cases x <;> simp[St,Fl.put,not_xj,Fl.yg1]
theorem put_x (o x:Option (List UInt8×Int))(b:List UInt8)(s:Int):Fl.put (St o x) ⟨nx,b,s⟩=St o (some (b,s)):=by
 have:=lt_jx
 cases o <;> cases x <;> simp[St,Fl.put,Fl.yg1,this]
theorem yt4 (o x:Option (List UInt8×Int)):Fl.drop (St o x) nx=St o none:=by
 cases o <;> cases x <;> simp[St,Fl.drop]
theorem yrt (o x:Option (List UInt8×Int)){r:Int}(hr:r≠0):bytesR (St o x) r nj=by_ o:=by
 unfold bytesR;rw[if_neg hr,ymz];cases o <;> rfl
theorem yu5 (o x:Option (List UInt8×Int)){r:Int}(hr:r≠0):bytesR (St o x) r nx=by_ x:=by
 unfold bytesR;rw[if_neg hr,ykl];cases x <;> rfl
theorem safe_j (o x:Option (List UInt8×Int)){r:Int}(hr:r≠0):safeR (St o x) r nj=sf o:=by
 unfold safeR;rw[if_neg hr,ymz];cases o <;> rfl
theorem safe_x (o x:Option (List UInt8×Int)){r:Int}(hr:r≠0):safeR (St o x) r nx=sf x:=by
 unfold safeR;rw[if_neg hr,ykl];cases x <;> rfl
theorem code_j (o x:Option (List UInt8×Int)){r:Int}(hr:r≠0):codeR (St o x) r nj=if o.isSome=true then 0 else 34:=by
 unfold codeR;rw[if_neg hr,ymz];cases o <;> rfl
theorem yt7 (o x:Option (List UInt8×Int)):(St o x).length≤2:=by cases o <;> cases x <;> simp[St]
theorem append_j {o x:Option (List UInt8×Int)}{r:Int}{s:List UInt8}(hr:r≠0):appendR (St o x) r nj s=if 1048576<(by_ o).length+s.length then (St o x,r,3) else (St (some (by_ o++s,sf o)) x,oneR r,0):=by
 have:=yt7 o x
 unfold appendR
 rw[if_neg hr,ytv,if_neg (by simp),yrt _ _ hr,safe_j _ _ hr,yuj]
 split
 · rfl
 · rw[if_neg (by omega)]
theorem yjl {o x:Option (List UInt8×Int)}{r:Int}{s:List UInt8}(hr:r≠0):appendR (St o x) r nx s=if 1048576<(by_ x).length+s.length then (St o x,r,3) else (St o (some (by_ x++s,sf x)),oneR r,0):=by
 have:=yt7 o x
 unfold appendR
 rw[if_neg hr,word_x,if_neg (by simp),yu5 _ _ hr,safe_x _ _ hr,put_x]
 split
 · rfl
 · rw[if_neg (by omega)]
theorem sync_j {o x:Option (List UInt8×Int)}{r:Int}(hr:r≠0):syncR (St o x) r nj=match o with|none=>(St o x,r,34)|some p=>(St (some (p.1,p.1.length)) x,oneR r,0):=by
 unfold syncR
 rw[if_neg hr,ymz]
 cases o with
 | none=>rfl
 | some p=>simp only[Option.map_some];rw[yuj]
theorem ytx {o x:Option (List UInt8×Int)}{r:Int}(hr:r≠0):syncR (St o x) r nx=match x with|none=>(St o x,r,34)|some p=>(St o (some (p.1,p.1.length)),oneR r,0):=by
 unfold syncR
 rw[if_neg hr,ykl]
 cases x with
 | none=>rfl
 | some p=>simp only[Option.map_some];rw[put_x]
theorem yst {o x:Option (List UInt8×Int)}{r:Int}(hr:r≠0):removeR (St o x) r nx=match x with|none=>(St o none,r,34)|some _=>(St o none,oneR r,0):=by
 unfold removeR
 rw[if_neg hr,ykl]
 cases x with
 | none=>rfl
 | some p=>simp only[Option.map_some];rw[yt4]
theorem ymm {o x:Option (List UInt8×Int)}{r:Int}(hr:r≠0):renameR (St o x) r nx nj=match x with|none=>(St o x,r,34)|some p=>(St (some p) none,oneR r,0):=by
 unfold renameR
 rw[if_neg hr,ykl]
 cases x with
 | none=>rfl
 | some p=>simp only[Option.map_some];rw[ytv,if_pos rfl,yt4,yuj]
def cut (p:List UInt8×Int)(k:Int):List UInt8×Int:=(p.1.take (p.2+min (max k 0) ((p.1.length:Int)-p.2)).toNat,p.2+min (max k 0) ((p.1.length:Int)-p.2))
structure J where
 len:Nat
 synced:Nat
 broken:Bool
def replaceR (l:List Fl)(r:Int)(s:List UInt8):List Fl×Int×Int:=
 if (appendR l r nx s).2.2≠0 then appendR l r nx s else
 if (syncR (appendR l r nx s).1 (appendR l r nx s).2.1 nx).2.2≠0 then syncR (appendR l r nx s).1 (appendR l r nx s).2.1 nx else
 renameR (syncR (appendR l r nx s).1 (appendR l r nx s).2.1 nx).1 (syncR (appendR l r nx s).1 (appendR l r nx s).2.1 nx).2.1 nx nj
def addR (l:List Fl)(r:Int)(j:J)(s:List UInt8):List Fl×Int×J×Int:=
 if j.broken=true then (l,r,j,8) else if 4096<s.length then (l,r,j,3) else
 if (appendR l r nj (lay j.len s)).2.2≠0 then ((appendR l r nj (lay j.len s)).1,(appendR l r nj (lay j.len s)).2.1,⟨j.len,j.synced,true⟩,(appendR l r nj (lay j.len s)).2.2)
 else ((appendR l r nj (lay j.len s)).1,(appendR l r nj (lay j.len s)).2.1,⟨j.len+1,j.synced,false⟩,0)
def syncJ (l:List Fl)(r:Int)(j:J):List Fl×Int×J×Int:=
 if j.broken=true then (l,r,j,8) else if j.len=0 then (l,r,j,0) else
 if (syncR l r nj).2.2≠0 then ((syncR l r nj).1,(syncR l r nj).2.1,⟨j.len,j.synced,true⟩,(syncR l r nj).2.2)
 else ((syncR l r nj).1,(syncR l r nj).2.1,⟨j.len,j.len,false⟩,0)
def renewR (l:List Fl)(r:Int)(j:J)(L:List (List UInt8)):List Fl×Int×J×Int:=
 if j.broken=true then (l,r,j,8) else if¬(∀s∈L,s.length≤4096) then (l,r,j,3) else
 if (replaceR l r (lays 0 L)).2.2≠0 then ((replaceR l r (lays 0 L)).1,(replaceR l r (lays 0 L)).2.1,⟨j.len,j.synced,true⟩,(replaceR l r (lays 0 L)).2.2)
 else ((replaceR l r (lays 0 L)).1,(replaceR l r (lays 0 L)).2.1,⟨L.length,L.length,false⟩,0)
theorem yuo:oneR (-1) = -1:=rfl
theorem replace_up (o:Option (List UInt8×Int))(s:List UInt8)(hs:s.length≤1048576):replaceR (St o none) (-1) s=(St (some (s,s.length)) none,-1,0):=by
 have h1:appendR (St o none) (-1) nx s=(St o (some (s,0)),-1,0):=by
  rw[yjl (by omega),if_neg (by simp[by_];omega)];simp[by_,sf,yuo]
 have h2:syncR (St o (some (s,0))) (-1) nx=(St o (some (s,s.length)),-1,0):=by rw[ytx (by omega)];rfl
 have h3:renameR (St o (some (s,s.length))) (-1) nx nj=(St (some (s,s.length)) none,-1,0):=by rw[ymm (by omega)];rfl
 unfold replaceR
 rw[h1,if_neg (by simp),h2,if_neg (by simp),h3]
end Jr
end
section
open Go.RowKit
abbrev S (l:List UInt8):Value:=.string ⟨l.toArray⟩
theorem yc9 (s:ByteArray)(k m:Nat):s.extract k (k+m)=⟨((s.data.toList.drop k).take m).toArray⟩:=by
 have h:=ByteArray.extract_mk s.data.toList k (k+m)
 rw[Nat.add_sub_cancel_left]at h
 exact h
theorem yek {P:Program}(t:TypeId)(ht:P.underlying t=some .string)(s:ByteArray)(k m:Nat)(h:k+m≤s.size)(W:World):
 (Instr.slice t (.string s) (some (.int .i64 (k:Int))) (some (.int .i64 ((k:Int)+(m:Int)))) none).run P W=.ok (S ((s.data.toList.drop k).take m)) W:=by
 rw[run_slice_string W t s .i64 .i64 _ _ ht (by omega) (by omega) (by omega)]
 have e:((k:Int)+(m:Int)).toNat=k+m:=by omega
 rw[e,Int.toNat_natCast,yc9]
theorem yhh {B:Nat}{a w:World}(h:Below B a w)(n:Nat):Below B a (w.drewN n):=by
 exact⟨h.os,h.tape,h.output,h.size,h.block⟩
theorem yan (w:World)(x:Value)(e:TypeId) :∀(j:Nat) (u:Value),[x][j]? = some u→(w.alloc (.cells #[x] e)).cell? ((⟨w.heap.size,0,none⟩:Addr).add j)=some u:=by
 intro j u hj
 match j,hj with
 | 0,hj=>simp at hj;subst hj;simp[Addr.add]
end
section
open Go.RowKit
theorem ya8 (a:Nat)(ha:a<4294967296):(BitVec.ofInt 32 (a:Int)).toNat=a:=by
 simp only[BitVec.ofInt_natCast,BitVec.toNat_ofNat]
 exact Nat.mod_eq_of_lt (by omega)
theorem wrap32u (a:Nat)(ha:a<4294967296):IntKind.u32.wrap (a:Int)=(a:Int):=by rw[IntKind.wrap_u32];omega
theorem xor32 {a b:Nat}(ha:a<4294967296)(hb:b<4294967296):bits .xor .u32 (a:Int) (b:Int)=((a ^^^ b:Nat):Int):=by
 show IntKind.u32.wrap ((BitVec.ofInt 32 (a:Int) ^^^ BitVec.ofInt 32 (b:Int)).toNat:Int)=_
 rw[BitVec.toNat_xor,ya8 a ha,ya8 b hb,wrap32u _ (Cr.ydc ha hb)]
theorem yu9 {a:Nat}(ha:a<4294967296):bits .and .u32 (a:Int) 1=((a%2:Nat):Int):=by
 show IntKind.u32.wrap ((BitVec.ofInt 32 (a:Int) &&& BitVec.ofInt 32 ((1:Nat):Int)).toNat:Int)=_
 rw[BitVec.toNat_and,ya8 a ha,ya8 1 (by omega),Nat.and_one_is_mod,wrap32u _ (by omega)]
theorem not32 (e:Nat)(he:e<4294967296):bits .xor .u32 (if IntKind.u32.signed=true then -1 else IntKind.u32.max) (e:Int)=((4294967295-e:Nat):Int):=by
 have h1:(if IntKind.u32.signed=true then -1 else IntKind.u32.max:Int)=4294967295:=by decide
 rw[h1]
 show IntKind.u32.wrap ((BitVec.ofInt 32 4294967295 ^^^ BitVec.ofInt 32 (e:Int)).toNat:Int)=_
 have h2:BitVec.ofInt 32 4294967295=BitVec.allOnes 32:=by decide
 rw[h2,BitVec.allOnes_xor,BitVec.toNat_not,ya8 e he,wrap32u _ (by omega)]
theorem Cr.yp4 (s:ByteArray)(i:Nat)(h:i<s.size)(x:Nat):Cr.regs x (s.data.toList.take (i+1))=Cr.byte (Cr.regs x (s.data.toList.take i)) s[i]:=by
 have hl:i<s.data.toList.length:=h
 rw[List.take_succ_eq_append_getElem hl,Cr.ysv]
 rfl
theorem yrr (s:ByteArray)(w:World)(hs:s.size≤9223372036854775806):
 Calls Tryz.prog 126 #[.string s] w fun e w'=>e=.returned (.int .u32 (Cr.sum s.data.toList:Int))∧w=w':=by
 have hlen:s.data.toList.length=s.size:=rfl
 have Hlen:=yh hlen
 clear hlen
 go_enter Tryz.func126,Tryz.ntmps126
 go_wp2_with fail
 go_loopw [3,8] (fun x c wr =>∃i:Nat,i≤s.size∧c=.int .i64 (i:Int)∧x=.int .u32 (Cr.regs 4294967295 (s.data.toList.take i):Int)∧w=wr) (fun _ c _=>s.size-(intOf c).toNat)
 case atStart=>exact⟨0,by omega,rfl,rfl,rfl⟩
 case round=>
  obtain⟨i,hi,rfl,rfl,rfl⟩:=hrel
  have hx:=Cr.yuh (x:=4294967295) (by omega) (s.data.toList.take i)
  obtain⟨x,hxe⟩:=yx (Cr.regs 4294967295 (s.data.toList.take i))
  rw[hxe]at hx ⊢
  have Hxe:=yh hxe
  clear hxe
  by_cases hlt:i<s.size
  · have d1:decide ((i:Int)<(s.size:Int))=true:=by simp only[decide_eq_true_eq];omega
    have d1':decide (i<s.size)=true:=by simp only[decide_eq_true_eq];omega
    have hlt':(i:Int)<(s.size:Int):=by omega
    have hb:=s[i].toNat_lt
    have hxor:=xor32 (a:=x) (b:=s[i].toNat) hx (by omega)
    have hxl:=Cr.ydc (a:=x) (b:=s[i].toNat) hx (by omega)
    obtain⟨b,hbe⟩:=yx (s[i])
    rw[hbe]at hb hxor hxl
    obtain⟨y,hy⟩:=yx (x ^^^ b.toNat)
    rw[hy]at hxor hxl
    have Hy:=yh hy
    clear hy
    go_wp2_with fail
    go_step3
    go_wp2_with fail
    go_step3
    go_wp2_with fail
    go_loopw [3,17] (fun v c wr =>∃k:Nat,k≤8∧c=.int .i64 (k:Int)∧v=.int .u32 (Cr.shifts k y:Int)∧w=wr) (fun _ c _=>8-(intOf c).toNat)
    case atStart=>exact⟨0,by omega,rfl,rfl,rfl⟩
    case round=>
     obtain⟨k,hk,rfl,rfl,rfl⟩:=hrel
     have hz:=Cr.yjr hxl k
     obtain⟨z,hze⟩:=yx (Cr.shifts k y)
     have hstep:Cr.shifts (k+1) y=Cr.shift z:=by rw[←hze];rfl
     rw[hze]at hz ⊢
     have Hstep:=yh hstep
     have Hz8:=yh hze
     clear hze hstep
     by_cases hk8:k<8
     · have d3:decide ((k:Int)<8)=true:=by simp only[decide_eq_true_eq];omega
       have d3':decide (k<8)=true:=by simp only[decide_eq_true_eq];omega
       obtain⟨h,hh⟩:=yx (z / 2)
       have eh:(z:Int) / 2=(h:Int):=by omega
       have hhl:h<4294967296:=by omega
       have hand:=yu9 hz
       by_cases hpar:z%2=0
       · rw[hpar]at hand
         have hand':bits .and .u32 (z:Int) 1=0:=hand
         have hsh:Cr.shift z=h:=by unfold Cr.shift;rw[if_pos hpar,hh]
         have Hsh:=yh hsh
         clear hand hpar hh hsh
         go_wp2_with fail
         refine⟨⟨k+1,by omega,by go_num,by rw[Hstep.out,Hsh.out],trivial⟩,by simp[intOf];omega⟩
       · rw[show z%2=1 by omega]at hand
         have hand':bits .and .u32 (z:Int) 1=1:=hand
         have hsh:Cr.shift z=h ^^^ 3988292384:=by unfold Cr.shift;rw[if_neg hpar,hh]
         have hx2:bits .xor .u32 (h:Int) 3988292384=((h ^^^ 3988292384:Nat):Int):=xor32 hhl (by decide)
         rw[←hsh]at hx2
         clear hand hpar hh hsh
         go_wp2_with fail
         refine⟨⟨k+1,by omega,by go_num,by rw[Hstep.out],trivial⟩,by simp[intOf];omega⟩
     · obtain rfl:k=8:=by omega
       go_wp2_with fail
       simp only[Exit.noGoto]
       go_wp2_with fail
       refine⟨⟨i+1,by omega,by go_num,?_,trivial⟩,by simp[intOf];omega⟩
       have hb2:=hbe
       rw[Cr.yp4 s i hlt,hbe,Hxe.out]
       unfold Cr.byte
       rw[Hy.out,Hz8.out]
  · obtain rfl:i=s.size:=by omega
    have d1:decide ((s.size:Int)<(s.size:Int))=false:=by simp only[decide_eq_false_iff_not];omega
    rw[←Hlen.out,List.take_length]at Hxe
    have hnot:=not32 x hx
    go_wp2_with fail
    go_ret
    refine⟨?_,rfl⟩
    unfold Cr.sum
    rw[Hxe.out]
    rfl
end
section
open Go.RowKit
def two (l:List UInt8)(e:Int):Value:=.tuple #[S l,.int .i64 e]
theorem ydm (n:Int)(w:World)(h1:n≤9223372036854775807):
 Calls Tryz.prog 90 #[.int .i64 n] w fun e w'=>e=.returned (two (Oct.numE n).1 (Oct.numE n).2)∧Below w.heap.size w w':=by
 by_cases h0:n<0
 · have e:Oct.numE n=([],2):=by unfold Oct.numE;rw[if_pos h0]
   rw[e]
   go_enter Tryz.func90,Tryz.ntmps90
   go_wp2_with fail
   go_ret2
   exact⟨rfl,Below.refl _ _⟩
 · have e:Oct.numE n=(Oct.num n.toNat,0):=by unfold Oct.numE;rw[if_neg h0]
   rw[e]
   go_enter Tryz.func90,Tryz.ntmps90
   go_wp2_with (go_at_call 125;refine(ydh n _ (by omega) h1).mono ?_;rintro e w1 ⟨rfl,hb1⟩)
   go_ret2
   exact⟨rfl,hb1⟩
end
section
open Go.RowKit
theorem yof (T:TypeId)(W:World)(a b c d:Int):(convert 85 9 (.slice (some ⟨W.heap.size,0,none⟩) 4 4)).run Tryz.prog (W.alloc (.cells #[.int .u8 a,.int .u8 b,.int .u8 c,.int .u8 d] T))=.ok (S [UInt8.ofNat a.toNat,UInt8.ofNat b.toNat,UInt8.ofNat c.toNat,UInt8.ofNat d.toNat]) (W.alloc (.cells #[.int .u8 a,.int .u8 b,.int .u8 c,.int .u8 d] T)):=by
 have:=run_convert_bytes_arg (P:=Tryz.prog) (W.alloc (.cells #[.int .u8 a,.int .u8 b,.int .u8 c,.int .u8 d] T)) 85 5 Tryz.underlying85 Tryz.underlying5 W.heap.size 0 4 4 [a,b,c,d] rfl (fun i hi=>by
  match i,hi with
  | 0,_=>simp[go_sem]
  | 1,_=>simp[go_sem]
  | 2,_=>simp[go_sem]
  | 3,_=>simp[go_sem]
  | k+4,hi=>omega) 9 Tryz.underlying9
 exact this
theorem ymu (n:Nat):Oct.numE (n:Int)=(Oct.num n,0):=by
 unfold Oct.numE
 rw[if_neg (by omega),Int.toNat_natCast]
theorem ykf (i:Nat)(s:ByteArray)(w:World)(hi:i≤9223372036854775807)(hs:s.size≤140737488351232):
 Calls Tryz.prog 91 #[.int .i64 (i:Int),.string s] w fun e w'=>e=.returned (S (Jr.sumB i s.data.toList))∧Below w.heap.size w w':=by
 have hnum:=fun w:World=>ydm (i:Int) w (by omega)
 rw[ymu]at hnum
 have hl:=Cr.sum_lt (Oct.num i++s.data.toList)
 have hnl:=Oct.yay i
 unfold Jr.sumB
 obtain⟨r,hr⟩ :∃r:ByteArray,(⟨(Oct.num i).toArray⟩:ByteArray)++s=r:=⟨_,rfl⟩
 have hrl:r.data.toList=Oct.num i++s.data.toList:=by rw[←hr];simp
 have hrz:r.size≤9223372036854775806:=by
  have:r.size=r.data.toList.length:=rfl
  rw[this,hrl,List.length_append]
  have h2:s.data.toList.length=s.size:=rfl
  omega
 have hsum:=fun w:World=>yrr r w hrz
 rw[hrl]at hsum
 obtain⟨x,hx⟩:=yx (Cr.sum (Oct.num i++s.data.toList))
 rw[hx]at hl ⊢
 simp only[hx]at hsum
 obtain⟨NB,hNB⟩ :∃NB:ByteArray,(⟨(Oct.num i).toArray⟩:ByteArray)=NB:=⟨_,rfl⟩
 have hNz:NB.size≤9:=by rw[←hNB];exact hnl
 rw[hNB]at hr
 have hnum' :∀w:World,Calls Tryz.prog 90 #[.int .i64 (i:Int)] w fun e w'=>e=.returned (.tuple #[.string NB,.int .i64 0])∧Below w.heap.size w w':=by
  intro w;rw[←hNB];exact hnum w
 have Hsum:=yh hsum
 have Hnum:=yh hnum'
 clear hsum hx hnum hnum' hNB hrl hrz hnl
 have hcv:=yof
 go_enter Tryz.func91,Tryz.ntmps91
 go_wp2_with fail
 refine(Hnum.out _).mono ?_
 rintro e w1 ⟨rfl,hb1⟩
 go_wp2_with fail
 refine(Hsum.out _).mono ?_
 rintro e w2 ⟨rfl,rfl⟩
 have Hb1:=yh hb1
 clear hb1
 go_wp2_with fail
 go_ret
 refine⟨?_,Hb1.out.alloc Hb1.out.size _⟩
 have e:x / 16777216%256=x / 16777216:=by omega
 unfold Cr.four
 rw[e]
 rfl
theorem ykg (i:Nat)(s:ByteArray)(w:World)(hi:i≤9223372036854775807)(hs:s.size≤140737488351232):
 Calls Tryz.prog 62 #[.int .i64 (i:Int),.string s] w fun e w'=>e=.returned (S (Jr.lay i s.data.toList))∧Below w.heap.size w w':=by
 have hnum:=fun w:World=>ydm (s.size:Int) w (by omega)
 rw[ymu]at hnum
 have hsum:=fun w:World=>ykf i s w hi hs
 have hlay:Jr.lay i s.data.toList=Oct.num s.size++(Jr.sumB i s.data.toList++s.data.toList):=rfl
 rw[hlay]
 have hnl:=Oct.yay s.size
 have hsl:=Jr.yfu i s.data.toList
 obtain⟨NB,hNB⟩ :∃NB:ByteArray,(⟨(Oct.num s.size).toArray⟩:ByteArray)=NB:=⟨_,rfl⟩
 obtain⟨SB,hSB⟩ :∃SB:ByteArray,(⟨(Jr.sumB i s.data.toList).toArray⟩:ByteArray)=SB:=⟨_,rfl⟩
 have hNz:NB.size≤9:=by rw[←hNB];exact hnl
 have hSz:SB.size=4:=by rw[←hSB];exact hsl
 have hS1:(NB++SB).size=NB.size+4:=by rw[ByteArray.size_append,hSz]
 have hnum' :∀w:World,Calls Tryz.prog 90 #[.int .i64 (s.size:Int)] w fun e w'=>e=.returned (.tuple #[.string NB,.int .i64 0])∧Below w.heap.size w w':=by
  intro w;rw[←hNB];exact hnum w
 have hsum' :∀w:World,Calls Tryz.prog 91 #[.int .i64 (i:Int),.string s] w fun e w'=>e=.returned (.string SB)∧Below w.heap.size w w':=by
  intro w;rw[←hSB];exact hsum w
 have hres:S (Oct.num s.size++(Jr.sumB i s.data.toList++s.data.toList))=.string (NB++SB++s):=by
  rw[←hNB,←hSB]
  show Value.string _=Value.string _
  congr 1
  apply ByteArray.ext
  simp
 rw[hres]
 have Hsum:=yh hsum'
 have Hnum:=yh hnum'
 clear hsum hsum' hSB hnum hnum' hNB hlay hres hsl hnl
 go_enter Tryz.func62,Tryz.ntmps62
 go_wp2_with fail
 refine(Hnum.out _).mono ?_
 rintro e w1 ⟨rfl,hb1⟩
 go_wp2_with fail
 refine(Hsum.out _).mono ?_
 rintro e w2 ⟨rfl,hb2⟩
 go_wp2_with fail
 go_ret
 exact⟨rfl,hb1.trans (hb2.mono hb1.size)⟩
end
section
open Go.RowKit
def jrV:Option (List UInt8×Nat)→Value
 | none=>.tuple #[S [],.int .i64 0,.bool false]
 | some (r,b)=>.tuple #[S r,.int .i64 (b:Int),.bool true]
theorem yoc (s:ByteArray)(p i:Nat)(w:World)(hi:i≤9223372036854775807)(hp:p≤s.size)(hs:s.size≤140737488351232):
 Calls Tryz.prog 85 #[.string s,.int .i64 (p:Int),.int .i64 (i:Int)] w fun e w'=>e=.returned (jrV (Jr.rd s.data.toList p i))∧Below w.heap.size w w':=by
 have hlen:s.data.toList.length=s.size:=rfl
 have hrd:=fun w:World=>ya5 s p w (by omega)
 rcases hn:Oct.rdNum s.data.toList p with⟨n,q,e⟩
 unfold rdNumV at hrd
 rw[hn]at hrd
 have Hrd:=yh hrd
 unfold Jr.rd
 rw[hn,hlen]
 simp only
 rcases Oct.yce hn with⟨he,rfl,rfl⟩|⟨rfl,_,hn0,hn1,hpq,hql,_⟩
 · rw[if_pos he]
   clear hn hrd hlen
   have hz:(e != 0)=true:=by simpa using he
   clear he
   go_enter Tryz.func85,Tryz.ntmps85
   go_wp2_with fail
   refine(Hrd.out _).mono ?_
   rintro e' w1 ⟨rfl,rfl⟩
   unfold three
   go_wp2_with fail
   go_ret3
   exact⟨rfl,Below.refl _ _⟩
 rw[if_neg (by simp)]
 obtain⟨N,rfl⟩ :∃N:Nat,n=(N:Int):=⟨n.toNat,by omega⟩
 obtain⟨Q,rfl⟩ :∃Q:Nat,q=(Q:Int):=⟨q.toNat,by omega⟩
 rw[hlen]at hql
 have hql':Q≤s.size:=by omega
 simp only[Int.toNat_natCast]
 clear hn hrd hlen hn0 hn1 hpq hql hp
 by_cases hbig:(4096:Int)<(N:Int)
 · rw[if_pos hbig]
   have hb':4096<N:=by omega
   have d1:decide ((4096:Int)<(N:Int))=true:=by simpa using hbig
   have d2:decide (4096<N)=true:=by simpa using hb'
   clear hb' hbig
   go_enter Tryz.func85,Tryz.ntmps85
   go_wp2_with fail
   refine(Hrd.out _).mono ?_
   rintro e' w1 ⟨rfl,rfl⟩
   unfold three
   go_wp2_with fail
   go_ret3
   exact⟨rfl,Below.refl _ _⟩
 rw[if_neg hbig]
 have hN:N≤4096:=by omega
 have d1:decide ((4096:Int)<(N:Int))=false:=by simpa using hbig
 have d2:decide (4096<N)=false:=by simpa using hN
 clear hbig
 have hw1:IntKind.i64.wrap ((s.size:Int)-(Q:Int))=(s.size:Int)-(Q:Int):=IntWalk.i64_in _ (by omega)
 have hw2:IntKind.i64.wrap ((4:Int)+(N:Int))=(4:Int)+(N:Int):=IntWalk.i64_in _ (by omega)
 by_cases hsh:(s.size:Int)-(Q:Int)<4+(N:Int)
 · rw[if_pos hsh]
   have d3:decide ((s.size:Int)-(Q:Int)<4+(N:Int))=true:=by simpa using hsh
   clear hsh
   go_enter Tryz.func85,Tryz.ntmps85
   go_wp2_with fail
   refine(Hrd.out _).mono ?_
   rintro e' w1 ⟨rfl,rfl⟩
   unfold three
   go_wp2_with fail
   go_ret3
   exact⟨rfl,Below.refl _ _⟩
 rw[if_neg hsh]
 have d3:decide ((s.size:Int)-(Q:Int)<4+(N:Int))=false:=by simpa using hsh
 have hfit:Q+4+N≤s.size:=by omega
 clear hsh
 obtain⟨Q4,hQ4⟩ :∃Q4:Nat,Q+4=Q4:=⟨_,rfl⟩
 obtain⟨QE,hQE⟩ :∃QE:Nat,Q4+N=QE:=⟨_,rfl⟩
 have hw3:IntKind.i64.wrap ((Q:Int)+4)=(Q4:Int):=by rw[IntWalk.i64_in _ (by omega)];omega
 have hw4:IntKind.i64.wrap ((Q4:Int)+(N:Int))=(QE:Int):=by rw[IntWalk.i64_in _ (by omega)];omega
 have hsl :∀W:World,(Instr.slice 9 (.string s) (some (.int .i64 (Q4:Int))) (some (.int .i64 (QE:Int))) none).run Tryz.prog W=.ok (S ((s.data.toList.drop Q4).take N)) W:=by
  intro W
  have h:=yek (P:=Tryz.prog) 9 (by kernel_rfl) s Q4 N (by omega) W
  rw[show ((Q4:Int)+(N:Int))=(QE:Int) by omega]at h
  exact h
 have hsl2 :∀W:World,(Instr.slice 9 (.string s) (some (.int .i64 (Q:Int))) (some (.int .i64 (Q4:Int))) none).run Tryz.prog W=.ok (S ((s.data.toList.drop Q).take 4)) W:=by
  intro W
  have h:=yek (P:=Tryz.prog) 9 (by kernel_rfl) s Q 4 (by omega) W
  rw[show ((Q:Int)+((4:Nat):Int))=(Q4:Int) by omega]at h
  exact h
 rw[hQ4,hQE]
 obtain⟨rl,hrl⟩:=yx ((s.data.toList.drop Q4).take N)
 obtain⟨xl,hxl⟩:=yx ((s.data.toList.drop Q).take 4)
 rw[hrl]at hsl ⊢
 rw[hxl]at hsl2 ⊢
 obtain⟨R,hR⟩ :∃R:ByteArray,(⟨rl.toArray⟩:ByteArray)=R:=⟨_,rfl⟩
 obtain⟨X,hX⟩ :∃X:ByteArray,(⟨xl.toArray⟩:ByteArray)=X:=⟨_,rfl⟩
 have hRl:R.data.toList=rl:=by rw[←hR]
 have hRz:R.size≤140737488351232:=by
  have:R.size=R.data.toList.length:=rfl
  rw[this,hRl,←hrl,List.length_take];omega
 have hXl:X.toList=xl:=by rw[←hX,ByteArray.toList_mk]
 have hslR :∀W:World,(Instr.slice 9 (.string s) (some (.int .i64 (Q4:Int))) (some (.int .i64 (QE:Int))) none).run Tryz.prog W=.ok (.string R) W:=by intro W;rw[←hR];exact hsl W
 have hslX :∀W:World,(Instr.slice 9 (.string s) (some (.int .i64 (Q:Int))) (some (.int .i64 (Q4:Int))) none).run Tryz.prog W=.ok (.string X) W:=by intro W;rw[←hX];exact hsl2 W
 have hsum:=fun w:World=>ykf i R w hi hRz
 rw[hRl]at hsum
 obtain⟨fl,hfl⟩:=yx (Jr.sumB i rl)
 rw[hfl]at hsum ⊢
 obtain⟨FB,hFB⟩ :∃FB:ByteArray,(⟨fl.toArray⟩:ByteArray)=FB:=⟨_,rfl⟩
 have hFl:FB.toList=fl:=by rw[←hFB,ByteArray.toList_mk]
 have hsum2 :∀w:World,Calls Tryz.prog 91 #[.int .i64 (i:Int),.string R] w fun e w'=>e=.returned (.string FB)∧Below w.heap.size w w':=by
  intro w;rw[←hFB];exact hsum w
 obtain⟨cmp,hcmp⟩:=yx ((X.toList == FB.toList))
 have Hsum:=yh hsum2
 have Hcmp:=yh hcmp
 have HFl:=yh hFl
 have HXl:=yh hXl
 have HR:=yh hR
 have HslX:=yh hslX
 clear hsum hsum2 hFl hFB hfl hXl hX hR hsl hsl2 hxl hrl hRl hcmp hslX
 rcases cmp with _|_
 · have hne:xl≠fl:=by
    intro e
    have h:=Hcmp.out
    rw[HFl.out,HXl.out,e]at h
    simp at h
   rw[if_pos hne]
   clear hne
   go_enter Tryz.func85,Tryz.ntmps85
   go_wp2_with fail
   refine(Hrd.out _).mono ?_
   rintro e' w1 ⟨rfl,rfl⟩
   unfold three
   go_wp2_with fail
   refine wp_region_noPanic ?_
   refine wp_region_held_drew (S:=fun w'=>Below w.heap.size w w') (by kernel_rfl) ((Below.refl _ _).drew) (fun gH=>?_)
   generalize w.drew=w6 at *
   have hslX:=HslX.out
   refine yg 0 (.string s) rfl gH ?_
   refine yg 1 (.int .i64 (Q:Int)) rfl gH ?_
   refine yg 2 (.int .i64 (Q4:Int)) rfl gH ?_
   simp only[Act.put,Ya,Yb,Yc,Yd,Ye,Yf]
   refine yg 3 (.string X) rfl gH ?_
   refine yg 4 (.int .i64 (i:Int)) rfl gH ?_
   refine yg 5 (.string R) rfl gH ?_
   simp only[Act.put,Ya,Yb,Yc,Yd,Ye,Yf]
   refine yR 6 (by kernel_rfl) rfl (fun K1 hK1=>?_)
   try simp only[Act.put,Ya,Yb,Yc,Yd,Ye,Yf]
   go_simp
   refine Calls.mono (Hsum.out _) ?_
   rintro e w9 ⟨rfl,hbb⟩
   refine hK1.out _ _ (gH.trans (hbb.mono gH.size)) (fun gH=>?_)
   clear hK1 K1
   try simp only[Act.put,Ya,Yb,Yc,Yd,Ye,Yf]
   have hcm:=Hcmp.out
   refine yg 7 (.bool true) rfl gH ?_
   refine wpAnyH_done (by kernel_rfl) ?_ _
   refine NoPanic.normal ?_
   have Hh9:=yh gH
   clear gH hbb hslX hcm
   go_wp2_with fail
   go_ret3
   exact⟨rfl,Hh9.out⟩
 · have heq:xl=fl:=by
    have h:=Hcmp.out
    rw[HFl.out,HXl.out]at h
    simpa using h
   rw[if_neg (by simpa using heq),show jrV (some (rl,QE))=.tuple #[.string R,.int .i64 (QE:Int),.bool true] by rw[←HR.out];rfl]
   clear heq
   go_enter Tryz.func85,Tryz.ntmps85
   go_wp2_with fail
   refine(Hrd.out _).mono ?_
   rintro e' w1 ⟨rfl,rfl⟩
   unfold three
   go_wp2_with fail
   refine wp_region_noPanic ?_
   refine wp_region_held_drew (S:=fun w'=>Below w.heap.size w w') (by kernel_rfl) ((Below.refl _ _).drew) (fun gH=>?_)
   generalize w.drew=w6 at *
   have hslX:=HslX.out
   refine yg 0 (.string s) rfl gH ?_
   refine yg 1 (.int .i64 (Q:Int)) rfl gH ?_
   simp only[Act.put,Ya,Yb,Yc,Yd,Ye,Yf]
   refine yg 2 (.int .i64 (Q4:Int)) rfl gH ?_
   refine yg 3 (.string X) rfl gH ?_
   refine yg 4 (.int .i64 (i:Int)) rfl gH ?_
   simp only[Act.put,Ya,Yb,Yc,Yd,Ye,Yf]
   refine yg 5 (.string R) rfl gH ?_
   refine yR 6 (by kernel_rfl) rfl (fun K1 hK1=>?_)
   try simp only[Act.put,Ya,Yb,Yc,Yd,Ye,Yf]
   go_simp
   refine Calls.mono (Hsum.out _) ?_
   rintro e w9 ⟨rfl,hbb⟩
   refine hK1.out _ _ (gH.trans (hbb.mono gH.size)) (fun gH=>?_)
   clear hK1 K1
   try simp only[Act.put,Ya,Yb,Yc,Yd,Ye,Yf]
   have hcm:=Hcmp.out
   refine yg 7 (.bool false) rfl gH ?_
   refine wpAnyH_done (by kernel_rfl) ?_ _
   refine NoPanic.normal ?_
   have Hh9:=yh gH
   clear gH hbb hslX hcm
   go_wp2_with fail
   go_ret3
   exact⟨rfl,Hh9.out⟩
end
section
open Go.RowKit
theorem yhk {P:Program}{a:Act}{w:World}{Q:Exit→Act→World→Prop}{c b:Code}(l:Nat)(J:Act→World→Prop)(μ : Act→World→Nat)(hf:findLabel c l=some (.seq .skip b))
 (pass :∀a w,J a w→b.wp P (Exit.jump l (fun a' w'=>J a' w'∧μ a' w' < μ a w) Q) a w)
 (first:(∀a w,J a w→b.wp P (Exit.jump l J Q) a w)→c.wp P (Exit.jump l J Q) a w):(Code.scope c).wp P Q a w:=by
 refine wp_scope_jumps l J μ hf (first fun a w h=>wp_mono (pass a w h) ?_) (fun a w h=>wp_seq (wp_skip (pass a w h)))
 intro e a' w' he
 cases e with
 | goto l'=>exact⟨he.1,he.2.1⟩
 | _=>exact he
theorem yb8 {w w1:World}{base:Nat}{e:TypeId}{size n:Nat}{v:Value}{xs:List Value}(h:w.ownsRow base e size v n xs)(hb:Below w.heap.size w w1):w1.ownsRow base e size v n xs:=
 h.kept (row:=none) ⟨hb.os,hb.tape,hb.output,hb.size,fun i hi _=>hb.block i hi⟩ (by cases v.ownBlock <;> simp)
theorem yh4 (w1:World)(T:TypeId)(v:Value) :∀j u,[v][j]? = some u→(w1.alloc (.cells #[v] T)).cell? ((⟨w1.heap.size,0,none⟩:Addr).add j)=some u:=by
 intro j u hj
 have hl:j < [v].length:=(List.getElem?_eq_some_iff.1 hj).1
 obtain rfl:j=0:=by simpa using hl
 have:v=u:=by simpa using hj
 subst this
 simp[go_sem,Addr.add]
theorem yd7:(Tryz.prog.info? 9).map (fun i=>(i.zero,i.size,i.bytes))=some (some (.string ByteArray.empty),1,16):=by kernel_rfl
def Lst (w:World)(base:Nat)(v:Value)(l:List (List UInt8)):Prop :=∃A c,v=.slice A l.length c∧(l≠[]→∃b,A=some ⟨b,0,none⟩∧base≤b∧b<w.heap.size∧∀i (h:i<l.length),w.cell? ⟨b,i,none⟩=some (S l[i]))
theorem yus {w:World}{base g cap:Nat}{l:List (List UInt8)}(h:w.ownsRow base 9 1 (.slice (some ⟨g,0,none⟩) l.length cap) l.length (l.map S))(c:Nat):Lst w base (.slice (some ⟨g,0,none⟩) l.length c) l:=by
 refine⟨some ⟨g,0,none⟩,c,rfl,fun _=>⟨g,rfl,(h.lt g rfl).1,(h.lt g rfl).2,fun i hi=>?_⟩⟩
 have:=h.cells (g:=g) rfl i (S l[i]) (by simp[hi])
 have e:(⟨g,0,none⟩:Addr).add i=⟨g,i,none⟩:=by unfold Addr.add;split <;> simp_all
 rwa[e]at this
theorem yut (w:World)(base c:Nat)(A:Option Addr):Lst w base (.slice A 0 c) []:=⟨A,c,rfl,fun h=>absurd rfl h⟩
theorem yly (s:ByteArray)(w:World)(hs:s.size≤1099511627776):
 Calls Tryz.prog 56 #[.string s] w fun e w'=>(∃v,e=.returned (.tuple #[v,.int .i64 ((Jr.parse s.data.toList).2:Int)])∧Lst w' w.heap.size v (Jr.parse s.data.toList).1)∧Below w.heap.size w w':=by
 obtain⟨i0,hi,hz0,hz1,hz2⟩:=info_parts yd7
 have Hi:=yh hi;clear hi
 have Hz0:=yh hz0;clear hz0
 have Hz1:=yh hz1;clear hz1
 have Hz2:=yh hz2;clear hz2
 have hlen:s.data.toList.length=s.size:=rfl
 have Hlen:=yh hlen
 clear hlen
 go_enter Tryz.func56,Tryz.ntmps56
 go_wp2_with fail
 refine yhk 0 (fun a' w' =>∃(p:Nat) (acc:List (List UInt8)) (v:Value),a' = { tmps:=#[.string s,a'.tmps.getD 1 undef,.slice none 0 0,.int .i64 0,v,.int .i64 (p:Int),a'.tmps.getD 6 undef,a'.tmps.getD 7 undef,a'.tmps.getD 8 undef,a'.tmps.getD 9 undef,a'.tmps.getD 10 undef,a'.tmps.getD 11 undef,a'.tmps.getD 12 undef,a'.tmps.getD 13 undef,a'.tmps.getD 14 undef,a'.tmps.getD 15 undef,a'.tmps.getD 16 undef,a'.tmps.getD 17 undef,a'.tmps.getD 18 undef,a'.tmps.getD 19 undef,a'.tmps.getD 20 undef,a'.tmps.getD 21 undef,a'.tmps.getD 22 undef,a'.tmps.getD 23 undef,a'.tmps.getD 24 undef,a'.tmps.getD 25 undef,a'.tmps.getD 26 undef,a'.tmps.getD 27 undef,a'.tmps.getD 28 undef,a'.tmps.getD 29 undef,a'.tmps.getD 30 undef],defers:=[] }∧Jr.Upto s.data.toList p acc∧5*acc.length≤p∧w'.ownsRow w.heap.size 9 1 v acc.length (acc.map S)∧Below w.heap.size w w') (fun a' _=>s.size-(intOf (a'.tmps.getD 5 undef)).toNat) (by rfl) ?_ ?_
 · rintro a' w' ⟨p,acc,v,ha,hup,hacc5,hown,hb⟩
   obtain⟨u,hu⟩ :∃u:Nat→Value,∀q,a'.tmps.getD q undef=u q:=⟨_,fun _=>rfl⟩
   simp only[hu]at ha
   subst ha
   clear hu
   have hpl:p≤s.size:=by have:=hup.1;rw[Hlen.out]at this;exact this
   obtain⟨A,c,rfl⟩ :∃A c,v=.slice A acc.length c:=by
    rcases hown.2 with⟨rfl,hx⟩|⟨g,cap,cur,rfl,_⟩
    · have:acc=[]:=by simpa using hx
      subst this
      exact⟨none,0,rfl⟩
    · exact⟨_,_,rfl⟩
   have hrd:=yoc s p acc.length w' (by omega) hpl (by omega)
   have Hb:=yh hb
   clear hb
   rcases hr:Jr.rd s.data.toList p acc.length with _|⟨r,b⟩
   · have hpa:=hup.stop hr
     have Hpa:=yh hpa
     rw[hr]at hrd
     simp only[jrV]at hrd
     have Hown:=yh hown
     have Hrd:=yh hrd
     clear hup hown hrd hr hpa
     go_wp2_with fail
     refine Hrd.out.mono ?_
     rintro e w1 ⟨rfl,hb1⟩
     have hown1:=yb8 Hown.out hb1
     have hb2:=Hb.out.trans (hb1.mono Hb.out.size)
     have Hown1:=yh hown1
     have Hb2:=yh hb2
     clear hown1 hb2 hb1
     have hsl :∃A',(∀W:World,(Instr.slice 56 (.slice A acc.length c) none (some (.int .i64 (acc.length:Int))) (some (.int .i64 (acc.length:Int)))).run Tryz.prog W=.ok (.slice A' acc.length acc.length) W)∧Lst w1 w.heap.size (.slice A' acc.length acc.length) acc:=by
      rcases Hown1.out.2 with⟨hA,hx⟩|⟨g,cap,cur,hv,_⟩
      · have:acc=[]:=by simpa using hx
        subst this
        injection hA with hA1 hA2 hA3
        subst hA1
        subst hA3
        exact⟨none,fun W=>by simp[go_sem],yut _ _ _ _⟩
      · injection hv with hA1 hA2 hA3
        subst hA1
        subst hA3
        have hnc :¬c<acc.length:=by omega
        exact⟨some ⟨g,0,none⟩,fun W=>by simp[go_sem,hnc],yus Hown1.out _⟩
     obtain⟨A',hsl,hlst⟩:=hsl
     have Hlst:=yh hlst
     clear hlst
     go_wp2_with fail
     simp only[Exit.jump]
     go_ret2
     rw[Hpa.out]
     exact⟨⟨_,rfl,Hlst.out⟩,Hb2.out⟩
   · obtain⟨hup2,hpb,hbl⟩:=hup.go hr
     obtain⟨_,hbe,_,hr4⟩:=Jr.ylh hr
     have hl5:=Jr.yi7 acc.length r
     rw[Hlen.out]at hbl
     rw[hr]at hrd
     simp only[jrV]at hrd
     have Hup2:=yh hup2
     have Hown:=yh hown
     have Hrd:=yh hrd
     have h5:5*(acc.length+1)≤b:=by omega
     clear hup2 hup hown hrd hr hbe hl5
     go_wp2_with fail
     refine Hrd.out.mono ?_
     rintro e w1 ⟨rfl,hb1⟩
     have hown1:=(yb8 Hown.out hb1).alloc (.cells #[S r] 9)
     have hbel1:=(Hb.out.trans (hb1.mono Hb.out.size)).alloc (Hb.out.trans (hb1.mono Hb.out.size)).size (.cells #[S r] 9)
     have hsz:=hbel1.size
     have hMx:acc.length+1≤219902325556:=by omega
     have c3:acc.length+1≤maxLen:=Nat.le_trans hMx (by decide)
     have c4:(acc.length+1)*16≤140737488355328:=by omega
     have hc1:=yh4 w1 9 (S r)
     have Hown1:=yh hown1
     have Hc1:=yh hc1
     clear hown1 hc1
     go_wp2_with (at_builtin;refine wpList_append_own _ rfl (.tmp 19) (.tmp 21) _ rfl w.heap.size 9 i0 _ 1 16 Tryz.underlying56 Hi.out Hz0.out Hz1.out Hz2.out rfl (by decide) (.slice A acc.length c) acc.length (acc.map S) rfl Hown1.out ⟨w1.heap.size,0,none⟩ 1 1 [S r] rfl rfl Hc1.out (by simp[Value.oneCell']) c3 c4 hsz ?_;intro v2 w2 hown2 hgr2 _)
     go_step3
     refine⟨rfl,⟨b,acc ++ [r],v2,by simp[Array.getD],Hup2.out,by rw[List.length_append];exact h5,by simpa using hown2,hbel1.grown hgr2 hsz (fun g hg=>(Hown1.out.lt g hg).1)⟩,by simp[intOf];omega⟩
 · intro hround
   have Hround:=yh hround
   clear hround
   go_wp2_with fail
   go_step3
   go_step
   go_step
   exact Hround.out _ _ ⟨0,[],_,rfl,Jr.Upto.start _,by simp,World.ownsRow_nil _ _ _ _,Below.refl _ _⟩
end
section
open Go.RowKit
def jcells (g:Nat)(j:Jr.J):List Value:=[.pointer (some ⟨g,0,none⟩),Sb Jr.nj,.int .i64 (j.len:Int),.int .i64 (j.synced:Int),.bool j.broken]
def JAt (w:World)(q g:Nat)(j:Jr.J):Prop:=Row w q 94 (jcells g j)
theorem JAt.box {w:World}{q g:Nat}{j:Jr.J}(h:JAt w q g j):w.cell? ⟨q,0,none⟩=some (.pointer (some ⟨g,0,none⟩))∧w.cell? ⟨q,1,none⟩=some (Sb Jr.nj)∧w.cell? ⟨q,2,none⟩=some (.int .i64 (j.len:Int))∧w.cell? ⟨q,3,none⟩=some (.int .i64 (j.synced:Int))∧w.cell? ⟨q,4,none⟩=some (.bool j.broken):=
 ⟨Row.cell h 0 (by simp[jcells]),Row.cell h 1 (by simp[jcells]),Row.cell h 2 (by simp[jcells]),Row.cell h 3 (by simp[jcells]),Row.cell h 4 (by simp[jcells])⟩
structure JS (w:World)(B:Nat)(S:Nat→Prop)(g q:Nat)(l:List Fl)(r:Int)(j:Jr.J):Prop where
 disk:DiskS w B S g l r
 row:JAt w q g j
 out :¬S q
def JTo (w w':World)(B:Nat)(S:Nat→Prop)(g q:Nat)(l:List Fl)(r:Int)(j:Jr.J):Prop:=
 ∃S':Nat→Prop,JS w' B S' g q l r j∧(∀k,S' k→S k∨w.heap.size≤k)∧Chg (fun k=>S k∨k=q) w w'
theorem JTo.refl {w:World}{B:Nat}{S:Nat→Prop}{g q:Nat}{l:List Fl}{r:Int}{j:Jr.J}(h:JS w B S g q l r j):JTo w w B S g q l r j:=⟨S,h,fun _ h=>.inl h,Chg.refl _ _⟩
theorem JTo.trans {a b c:World}{B:Nat}{S S1:Nat→Prop}{g q:Nat}{l2:List Fl}{r2:Int}{j2:Jr.J}(h2 :∀k,S1 k→S k∨a.heap.size≤k)(h3:Chg (fun k=>S k∨k=q) a b)(k:JTo b c B S1 g q l2 r2 j2):JTo a c B S g q l2 r2 j2:=by
 obtain⟨S2,k1,k2,k3⟩:=k
 refine⟨S2,k1,fun i hi=>?_,h3.trans k3 (fun i hi=>?_)⟩
 · rcases k2 i hi with h|h
   · exact h2 i h
   · have:=h3.size;exact .inr (by omega)
 · rcases hi with hi|hi
   · rcases h2 i hi with h|h
     · exact .inl (.inl h)
     · exact .inr h
   · exact .inl (.inr hi)
theorem JS.diskTo {w w':World}{B:Nat}{S:Nat→Prop}{g q:Nat}{l l':List Fl}{r r':Int}{j:Jr.J}(h:JS w B S g q l r j)(hd:DiskS w' B (Plus S w w') g l' r')(hc:Chg S w w'):JTo w w' B S g q l' r' j:=by
 have hq:=Row.lt h.row
 refine⟨Plus S w w',⟨hd,hc.row h.row h.out,fun hk=>?_⟩,fun k hk=>?_,hc.mono (fun k hk=>.inl hk)⟩
 · rcases hk with hk|hk
   · exact h.out hk
   · omega
 · rcases hk with hk|hk
   · exact .inl hk
   · exact .inr hk.1
theorem JS.below {w w':World}{B:Nat}{S:Nat→Prop}{g q:Nat}{l:List Fl}{r:Int}{j:Jr.J}(h:JS w B S g q l r j)(hb:Below w.heap.size w w'):JS w' B S g q l r j:=⟨h.disk.below hb,Row.below h.row hb,h.out⟩
theorem JS.belowTo {w w':World}{B:Nat}{S:Nat→Prop}{g q:Nat}{l:List Fl}{r:Int}{j:Jr.J}(h:JS w B S g q l r j)(hb:Below w.heap.size w w'):JTo w w' B S g q l r j:=⟨S,h.below hb,fun _ h=>.inl h,⟨hb.os,hb.tape,hb.output,hb.size,fun i hi _=>hb.block i hi⟩⟩
theorem JS.rowTo {w w':World}{B:Nat}{S:Nat→Prop}{g q:Nat}{l:List Fl}{r:Int}{j j':Jr.J}(h:JS w B S g q l r j)(hg:w.grownBy w' (some q))(hr:JAt w' q g j'):JTo w w' B S g q l r j':=by
 have hc:Chg (fun k=>k=q) w w':=Chg.yat hg (fun k e=>by cases e;exact .inl rfl)
 exact⟨S,⟨h.disk.kept hc (fun k hk e=>h.out (e ▸ hk)),hr,h.out⟩,fun _ h=>.inl h,hc.mono (fun k hk=>.inr hk)⟩
theorem yg6 {w:World}{q g:Nat}{j:Jr.J}(h:JAt w q g j):Calls Tryz.prog 59 #[.pointer (some ⟨q,0,none⟩)] w fun e w'=>e=.returned (.int .i64 (if j.broken=true then 8 else 0))∧w=w':=by
 obtain⟨c0,c1,c2,c3,c4⟩:=h.box
 have Hh:=yh h
 clear h
 rcases hj:j.broken with _|_
 · rw[hj]at c4
   clear hj
   go_enter Tryz.func59,Tryz.ntmps59
   go_wp2_with fail
   go_ret
   exact⟨rfl,rfl⟩
 · rw[hj]at c4
   clear hj
   go_enter Tryz.func59,Tryz.ntmps59
   go_wp2_with fail
   go_ret
   exact⟨rfl,rfl⟩
theorem yff {w:World}{B:Nat}{S:Nat→Prop}{g q:Nat}{l:List Fl}{r:Int}{j:Jr.J}(h:JS w B S g q l r j)(x:Int):Calls Tryz.prog 60 #[.pointer (some ⟨q,0,none⟩),.int .i64 x] w fun e w'=>e=.returned (.int .i64 x)∧JTo w w' B S g q l r ⟨j.len,j.synced,decide (x≠0)⟩:=by
 obtain⟨c0,c1,c2,c3,c4⟩:=h.row.box
 have hf:=Row.free h.row 4
 have hrow:=Row.set h.row 4 (.bool (decide (x≠0))) (by simp[jcells])
 have hto:JTo w (w.setCell ⟨q,4,none⟩ (.bool (decide (x≠0)))) B S g q l r ⟨j.len,j.synced,decide (x≠0)⟩:=h.rowTo (yaq _ _ _ _) hrow
 have hx:(x != 0)=decide (x≠0):=by rw[Bool.eq_iff_iff];simp
 rw[←hx]at hto ⊢
 have Hto:=yh hto
 clear hto hrow hx h
 go_enter Tryz.func60,Tryz.ntmps60
 go_wp2_with fail
 go_ret
 exact⟨rfl,Hto.out⟩
end
section
open Go.RowKit
theorem ylx {w:World}{B:Nat}{S:Nat→Prop}{g q:Nat}{l:List Fl}{r:Int}{j:Jr.J}(h:JS w B S g q l r j)(s:List UInt8)(hs:s.length≤140737488351232):Calls Tryz.prog 87 #[.pointer (some ⟨q,0,none⟩),Sb s] w fun e w'=>e=.returned (.int .i64 (Jr.replaceR l r s).2.2)∧JTo w w' B S g q (Jr.replaceR l r s).1 (Jr.replaceR l r s).2.1 j:=by
 unfold Jr.replaceR
 obtain⟨NX,hNX⟩ :∃b:ByteArray,(⟨#[108,111,103,120]⟩:ByteArray)=b:=⟨_,rfl⟩
 obtain⟨NJ,hNJ⟩ :∃b:ByteArray,(⟨#[108,111,103]⟩:ByteArray)=b:=⟨_,rfl⟩
 have hadd:NJ++(⟨#[120]⟩:ByteArray)=NX:=by rw[←hNX,←hNJ];rfl
 have hz1:NJ.size=3:=by rw[←hNJ];rfl
 have hz2:(⟨#[120]⟩:ByteArray).size=1:=rfl
 have hbx:Sb Jr.nx=.string NX:=by rw[←hNX]
 have hbj:Sb Jr.nj=.string NJ:=by rw[←hNJ]
 have hxl:Jr.nx.length≤140737488351232:=by decide
 have hjl:Jr.nj.length≤140737488351232:=by decide
 have hxm:Jr.nx.length≤maxLen:=by decide
 obtain⟨sv,hsv⟩ :∃v,Sb s=v:=⟨_,rfl⟩
 have kA:=fun {w:World}{S:Nat→Prop}(h:DiskS w B S g l r)=>ym7 Jr.nx s h hxl hs
 rcases hA:appendR l r Jr.nx s with⟨l1,r1,c1⟩
 rw[hA]at kA
 have kS:=fun {w:World}{S:Nat→Prop}(h:DiskS w B S g l1 r1)=>ypj Jr.nx h hxm
 rcases hS:syncR l1 r1 Jr.nx with⟨l2,r2,c2⟩
 rw[hS]at kS
 have kR:=fun {w:World}{S:Nat→Prop}(h:DiskS w B S g l2 r2)=>yss Jr.nx Jr.nj h hxm hjl
 rcases hR:renameR l2 r2 Jr.nx Jr.nj with⟨l3,r3,c3⟩
 rw[hR]at kR
 simp only[hbx,hbj,hsv]at kA kS kR ⊢
 have KA:=fun {w:World}{S:Nat→Prop}(h:DiskS w B S g l r)=>yh (kA h)
 have KS:=fun {w:World}{S:Nat→Prop}(h:DiskS w B S g l1 r1)=>yh (kS h)
 have KR:=fun {w:World}{S:Nat→Prop}(h:DiskS w B S g l2 r2)=>yh (kR h)
 have Hbj:=yh hbj
 have HS:=yh hS
 have HR:=yh hR
 clear kA kS kR hA hS hR hNX hNJ hbx hbj hxl hjl hxm hsv hs
 by_cases e1:c1=0
 · subst e1
   simp only[ne_eq,not_true_eq_false,if_false,HS.out]
   by_cases e2:c2=0
   · subst e2
     simp only[ne_eq,not_true_eq_false,if_false,HR.out]
     go_enter Tryz.func87,Tryz.ntmps87
     go_wp2_with fail
     have q0:=h.row.box.1
     have q1:=h.row.box.2.1
     rw[Hbj.out]at q1
     have HJ:=yh h
     refine ybj 10 (by kernel_rfl) (by kernel_rfl) ?_
     intro w3 hw3
     have q0':=(yax hw3 q 0).trans q0
     have q1':=(yax hw3 q 1).trans q1
     have hbw3:Below w.heap.size w w3:=by rw[hw3];exact(Below.refl _ _).drew
     have HDw3:=yh (HJ.out.below hbw3)
     have Hbw3:=yh hbw3
     clear q0 q1 hw3 hbw3 h
     repeat still_step
     refine wpStill_nil ?_
     go_wp2_with fail
     refine(KA HDw3.out.disk).out.mono ?_
     rintro e w4 ⟨rfl,hd,hc⟩
     have htw4:=HDw3.out.diskTo hd hc
     have Htow4:=yh htw4
     clear hd hc htw4
     have tA:JTo w w4 B S g q l1 r1 j:=JTo.trans (fun _ h=>Or.inl h) ⟨Hbw3.out.os,Hbw3.out.tape,Hbw3.out.output,Hbw3.out.size,fun i hi _=>Hbw3.out.block i hi⟩ Htow4.out
     obtain⟨S1,hJ1,hP1,hC1⟩:=tA
     have HP1:=yh hP1
     have HC1:=yh hC1
     clear hP1 hC1 Htow4
     go_wp2_with fail
     have q0:=hJ1.row.box.1
     have q1:=hJ1.row.box.2.1
     rw[Hbj.out]at q1
     have HJ2:=yh hJ1
     refine ybj 9 (by kernel_rfl) (by kernel_rfl) ?_
     intro w5 hw5
     have q0':=(yax hw5 q 0).trans q0
     have q1':=(yax hw5 q 1).trans q1
     have hbw5:Below w4.heap.size w4 w5:=by rw[hw5];exact(Below.refl _ _).drew
     have HDw5:=yh (HJ2.out.below hbw5)
     have Hbw5:=yh hbw5
     clear q0 q1 hw5 hbw5 hJ1
     repeat still_step
     refine wpStill_nil ?_
     go_wp2_with fail
     refine(KS HDw5.out.disk).out.mono ?_
     rintro e w6 ⟨rfl,hd,hc⟩
     have htw6:=HDw5.out.diskTo hd hc
     have Htow6:=yh htw6
     clear hd hc htw6
     have tB:JTo w w6 B S g q l2 r2 j:=JTo.trans HP1.out HC1.out (JTo.trans (fun _ h=>Or.inl h) ⟨Hbw5.out.os,Hbw5.out.tape,Hbw5.out.output,Hbw5.out.size,fun i hi _=>Hbw5.out.block i hi⟩ Htow6.out)
     obtain⟨S2,hJ3,hP2,hC2⟩:=tB
     have HP2:=yh hP2
     have HC2:=yh hC2
     clear hP2 hC2 Htow6
     go_wp2_with fail
     have q0:=hJ3.row.box.1
     have q1:=hJ3.row.box.2.1
     rw[Hbj.out]at q1
     have HJ3:=yh hJ3
     refine ybj 13 (by kernel_rfl) (by kernel_rfl) ?_
     intro w7 hw7
     have q0':=(yax hw7 q 0).trans q0
     have q1':=(yax hw7 q 1).trans q1
     have hbw7:Below w6.heap.size w6 w7:=by rw[hw7];exact(Below.refl _ _).drew
     have HDw7:=yh (HJ3.out.below hbw7)
     have Hbw7:=yh hbw7
     clear q0 q1 hw7 hbw7 hJ3
     repeat still_step
     refine wpStill_nil ?_
     go_wp2_with fail
     refine(KR HDw7.out.disk).out.mono ?_
     rintro e w8 ⟨rfl,hd,hc⟩
     have htw8:=HDw7.out.diskTo hd hc
     have Htow8:=yh htw8
     clear hd hc htw8
     go_wp2_with fail
     go_ret
     exact⟨rfl,JTo.trans HP2.out HC2.out (JTo.trans (fun _ h=>Or.inl h) ⟨Hbw7.out.os,Hbw7.out.tape,Hbw7.out.output,Hbw7.out.size,fun i hi _=>Hbw7.out.block i hi⟩ Htow8.out)⟩
   · rw[if_pos e2]
     have d2:(c2 != 0)=true:=by simpa using e2
     clear e2
     go_enter Tryz.func87,Tryz.ntmps87
     go_wp2_with fail
     have q0:=h.row.box.1
     have q1:=h.row.box.2.1
     rw[Hbj.out]at q1
     have HJ:=yh h
     refine ybj 10 (by kernel_rfl) (by kernel_rfl) ?_
     intro w3 hw3
     have q0':=(yax hw3 q 0).trans q0
     have q1':=(yax hw3 q 1).trans q1
     have hbw3:Below w.heap.size w w3:=by rw[hw3];exact(Below.refl _ _).drew
     have HDw3:=yh (HJ.out.below hbw3)
     have Hbw3:=yh hbw3
     clear q0 q1 hw3 hbw3 h
     repeat still_step
     refine wpStill_nil ?_
     go_wp2_with fail
     refine(KA HDw3.out.disk).out.mono ?_
     rintro e w4 ⟨rfl,hd,hc⟩
     have htw4:=HDw3.out.diskTo hd hc
     have Htow4:=yh htw4
     clear hd hc htw4
     have tA:JTo w w4 B S g q l1 r1 j:=JTo.trans (fun _ h=>Or.inl h) ⟨Hbw3.out.os,Hbw3.out.tape,Hbw3.out.output,Hbw3.out.size,fun i hi _=>Hbw3.out.block i hi⟩ Htow4.out
     obtain⟨S1,hJ1,hP1,hC1⟩:=tA
     have HP1:=yh hP1
     have HC1:=yh hC1
     clear hP1 hC1 Htow4
     go_wp2_with fail
     have q0:=hJ1.row.box.1
     have q1:=hJ1.row.box.2.1
     rw[Hbj.out]at q1
     have HJ2:=yh hJ1
     refine ybj 9 (by kernel_rfl) (by kernel_rfl) ?_
     intro w5 hw5
     have q0':=(yax hw5 q 0).trans q0
     have q1':=(yax hw5 q 1).trans q1
     have hbw5:Below w4.heap.size w4 w5:=by rw[hw5];exact(Below.refl _ _).drew
     have HDw5:=yh (HJ2.out.below hbw5)
     have Hbw5:=yh hbw5
     clear q0 q1 hw5 hbw5 hJ1
     repeat still_step
     refine wpStill_nil ?_
     go_wp2_with fail
     refine(KS HDw5.out.disk).out.mono ?_
     rintro e w6 ⟨rfl,hd,hc⟩
     have htw6:=HDw5.out.diskTo hd hc
     have Htow6:=yh htw6
     clear hd hc htw6
     go_wp2_with fail
     go_ret
     exact⟨rfl,JTo.trans HP1.out HC1.out (JTo.trans (fun _ h=>Or.inl h) ⟨Hbw5.out.os,Hbw5.out.tape,Hbw5.out.output,Hbw5.out.size,fun i hi _=>Hbw5.out.block i hi⟩ Htow6.out)⟩
 · rw[if_pos e1]
   have d1:(c1 != 0)=true:=by simpa using e1
   clear e1
   go_enter Tryz.func87,Tryz.ntmps87
   go_wp2_with fail
   have q0:=h.row.box.1
   have q1:=h.row.box.2.1
   rw[Hbj.out]at q1
   have HJ:=yh h
   refine ybj 10 (by kernel_rfl) (by kernel_rfl) ?_
   intro w3 hw3
   have q0':=(yax hw3 q 0).trans q0
   have q1':=(yax hw3 q 1).trans q1
   have hbw3:Below w.heap.size w w3:=by rw[hw3];exact(Below.refl _ _).drew
   have HDw3:=yh (HJ.out.below hbw3)
   have Hbw3:=yh hbw3
   clear q0 q1 hw3 hbw3 h
   repeat still_step
   refine wpStill_nil ?_
   go_wp2_with fail
   refine(KA HDw3.out.disk).out.mono ?_
   rintro e w4 ⟨rfl,hd,hc⟩
   have htw4:=HDw3.out.diskTo hd hc
   have Htow4:=yh htw4
   clear hd hc htw4
   go_wp2_with fail
   go_ret
   exact⟨rfl,JTo.trans (fun _ h=>Or.inl h) ⟨Hbw3.out.os,Hbw3.out.tape,Hbw3.out.output,Hbw3.out.size,fun i hi _=>Hbw3.out.block i hi⟩ Htow4.out⟩
end
end Go.Proofs.YtalfnadejpmjnaaGreatDoor.Jn
