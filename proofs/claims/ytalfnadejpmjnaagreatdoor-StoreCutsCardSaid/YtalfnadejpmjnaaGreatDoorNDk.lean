/- A part. -/
import Derived.Test.YtalfnadejpmjnaaGreatDoorNSlT
import Derived.Deep.DeepAppendWide
import Derived.Maps.RangeWalk
import Derived.Maps.OwnSet
import Derived.Maps.Views
import Derived.StringKeys
import Derived.Sort.KeysCollected
import Derived.Deep.AppendSrc
import Derived.Shelf.Sort.Plain
import Derived.Shelf.Slices.In.SortNone
import Derived.Laws.IdiomStrings
import Derived.Sort.OwnSorted
set_option linter.unusedVariables false
set_option linter.unusedSimpArgs false
set_option maxRecDepth 100000
set_option maxHeartbeats 25600000
namespace Go.Proofs.YtalfnadejpmjnaaGreatDoor.Jn
section
open Go.RowKit
namespace Disk
def okn (x:Nat):Bool:=(decide (97≤x)&&decide (x≤122))||((decide (48≤x)&&decide (x≤57))||decide (x=46))
def okc (c:UInt8):Bool:=okn c.toNat
def word (l:List UInt8):Bool:=l.all okc&&(decide (1≤l.length)&&decide (l.length≤16))
theorem yts {l:List UInt8}{k:Nat}(hk:k<l.length)(h:(l.take k).all okc=true)(h2:okc l[k]=true):(l.take (k+1)).all okc=true:=by
 rw[List.take_succ_eq_append_getElem hk,List.all_append,h,List.all_cons,h2];rfl
theorem yva {l:List UInt8}{k:Nat}(hk:k<l.length)(h2:okc l[k]=false):word l=false:=by
 unfold word
 have:l.all okc=false:=by
  rw[Bool.eq_false_iff]
  intro h
  have:=List.all_eq_true.1 h _ (List.getElem_mem hk)
  rw[h2]at this
  cases this
 rw[this];rfl
end Disk
theorem yh9 (s:ByteArray)(w:World)(hs:s.size≤140737488351232):
 Calls Tryz.prog 89 #[.string s] w fun e w'=>e=.returned (.bool (Disk.word s.data.toList))∧w=w':=by
 have hl:s.data.toList.length=s.size:=rfl
 have hg :∀k (h:k<s.size),s.data.toList[k]'h=s[k]'h:=fun k h=>rfl
 have HL:=yh hl
 have HG:=yh hg
 obtain⟨R,hR⟩ :∃R,R=Disk.word s.data.toList:=⟨_,rfl⟩
 rw[←hR]
 have HR:=yh hR
 clear hl hg hR
 go_enter Tryz.func89,Tryz.ntmps89
 go_wp2_with fail
 go_loopw [7] (fun i wr =>∃k:Nat,k≤s.size∧i=.int .i64 k∧(s.data.toList.take k).all Disk.okc=true∧w=wr) (fun i _=>s.size-(intOf i).toNat)
 case atStart=>exact⟨0,Nat.zero_le _,rfl,rfl,rfl⟩
 case round=>
  obtain⟨k,hk,rfl,hall,rfl⟩:=hrel
  have Hall:=yh hall
  clear hall
  by_cases hlt:k<s.size
  · have hki:(k:Int)<(s.size:Int):=by omega
    have Hgood:=yh (fun (h:Disk.okn (s[k]'hlt).toNat=true)=>Disk.yts (l:=s.data.toList) (k:=k) hlt Hall.out (by rw[HG.out k hlt];exact h))
    have Hbad:=yh (fun (h:Disk.okn (s[k]'hlt).toNat=false)=>Disk.yva (l:=s.data.toList) (k:=k) hlt (by rw[HG.out k hlt];exact h))
    by_cases h1:97≤(s[k]'hlt).toNat <;> by_cases h2:(s[k]'hlt).toNat≤122 <;> by_cases h3:48≤(s[k]'hlt).toNat <;> by_cases h4:(s[k]'hlt).toNat≤57
    · omega
    · skip
      have b0:decide ((97:Int)≤((s[k]'hlt).toNat:Int))=true:=by simp;omega
      have b1:decide (((s[k]'hlt).toNat:Int)≤122)=true:=by simp;omega
      have b2:decide ((48:Int)≤((s[k]'hlt).toNat:Int))=true:=by simp;omega
      have b3:decide (((s[k]'hlt).toNat:Int)≤57)=false:=by simp;omega
      have b4:(((s[k]'hlt).toNat:Int) == 46)=false:=by simp;omega
      have b5:(((s[k]'hlt).toNat:Int) != 46)=true:=by simp;omega
      have ho:Disk.okn (s[k]'hlt).toNat=true:=by unfold Disk.okn;simp;omega
      have Ho:=yh (Hgood.out ho)
      clear ho Hgood Hbad h1 h2 h3 h4
      go_wp2_with fail
      exact⟨⟨k+1,hlt,by go_num,Ho.out,by trivial⟩,by simp[intOf];omega⟩
    · omega
    · omega
    · omega
    · skip
      have b0:decide ((97:Int)≤((s[k]'hlt).toNat:Int))=true:=by simp;omega
      have b1:decide (((s[k]'hlt).toNat:Int)≤122)=false:=by simp;omega
      have b2:decide ((48:Int)≤((s[k]'hlt).toNat:Int))=true:=by simp;omega
      have b3:decide (((s[k]'hlt).toNat:Int)≤57)=false:=by simp;omega
      have b4:(((s[k]'hlt).toNat:Int) == 46)=false:=by simp;omega
      have b5:(((s[k]'hlt).toNat:Int) != 46)=true:=by simp;omega
      have ho:Disk.okn (s[k]'hlt).toNat=false:=by unfold Disk.okn;simp;omega
      have Ho:=yh (HR.out.trans (Hbad.out ho))
      clear ho Hgood Hbad h1 h2 h3 h4
      go_wp2_with fail
      go_ret
      exact⟨by rw[Ho.out];rfl,rfl⟩
    · omega
    · omega
    · skip
      have b0:decide ((97:Int)≤((s[k]'hlt).toNat:Int))=false:=by simp;omega
      have b1:decide (((s[k]'hlt).toNat:Int)≤122)=true:=by simp;omega
      have b2:decide ((48:Int)≤((s[k]'hlt).toNat:Int))=true:=by simp;omega
      have b3:decide (((s[k]'hlt).toNat:Int)≤57)=true:=by simp;omega
      have b4:(((s[k]'hlt).toNat:Int) == 46)=false:=by simp;omega
      have b5:(((s[k]'hlt).toNat:Int) != 46)=true:=by simp;omega
      have ho:Disk.okn (s[k]'hlt).toNat=true:=by unfold Disk.okn;simp;omega
      have Ho:=yh (Hgood.out ho)
      clear ho Hgood Hbad h1 h2 h3 h4
      go_wp2_with fail
      exact⟨⟨k+1,hlt,by go_num,Ho.out,by trivial⟩,by simp[intOf];omega⟩
    · skip
      have b0:decide ((97:Int)≤((s[k]'hlt).toNat:Int))=false:=by simp;omega
      have b1:decide (((s[k]'hlt).toNat:Int)≤122)=true:=by simp;omega
      have b2:decide ((48:Int)≤((s[k]'hlt).toNat:Int))=true:=by simp;omega
      have b3:decide (((s[k]'hlt).toNat:Int)≤57)=false:=by simp;omega
      have b4:(((s[k]'hlt).toNat:Int) == 46)=false:=by simp;omega
      have b5:(((s[k]'hlt).toNat:Int) != 46)=true:=by simp;omega
      have ho:Disk.okn (s[k]'hlt).toNat=false:=by unfold Disk.okn;simp;omega
      have Ho:=yh (HR.out.trans (Hbad.out ho))
      clear ho Hgood Hbad h1 h2 h3 h4
      go_wp2_with fail
      go_ret
      exact⟨by rw[Ho.out];rfl,rfl⟩
    · by_cases h5:(s[k]'hlt).toNat=46
      · skip
        have b0:decide ((97:Int)≤((s[k]'hlt).toNat:Int))=false:=by simp;omega
        have b1:decide (((s[k]'hlt).toNat:Int)≤122)=true:=by simp;omega
        have b2:decide ((48:Int)≤((s[k]'hlt).toNat:Int))=false:=by simp;omega
        have b3:decide (((s[k]'hlt).toNat:Int)≤57)=true:=by simp;omega
        have b4:(((s[k]'hlt).toNat:Int) == 46)=true:=by simp;omega
        have b5:(((s[k]'hlt).toNat:Int) != 46)=false:=by simp;omega
        have ho:Disk.okn (s[k]'hlt).toNat=true:=by unfold Disk.okn;simp;omega
        have Ho:=yh (Hgood.out ho)
        clear ho Hgood Hbad h1 h2 h3 h4 h5
        go_wp2_with fail
        exact⟨⟨k+1,hlt,by go_num,Ho.out,by trivial⟩,by simp[intOf];omega⟩
      · skip
        have b0:decide ((97:Int)≤((s[k]'hlt).toNat:Int))=false:=by simp;omega
        have b1:decide (((s[k]'hlt).toNat:Int)≤122)=true:=by simp;omega
        have b2:decide ((48:Int)≤((s[k]'hlt).toNat:Int))=false:=by simp;omega
        have b3:decide (((s[k]'hlt).toNat:Int)≤57)=true:=by simp;omega
        have b4:(((s[k]'hlt).toNat:Int) == 46)=false:=by simp;omega
        have b5:(((s[k]'hlt).toNat:Int) != 46)=true:=by simp;omega
        have ho:Disk.okn (s[k]'hlt).toNat=false:=by unfold Disk.okn;simp;omega
        have Ho:=yh (HR.out.trans (Hbad.out ho))
        clear ho Hgood Hbad h1 h2 h3 h4 h5
        go_wp2_with fail
        go_ret
        exact⟨by rw[Ho.out];rfl,rfl⟩
    · omega
    · omega
    · omega
    · omega
    · omega
  · have hki:(s.size:Int)≤(k:Int):=by omega
    obtain rfl:k=s.size:=by omega
    have hw:R=(decide ((1:Int)≤(s.size:Int))&&decide ((s.size:Int)≤16)):=by
     have h:=Hall.out
     rw[List.take_of_length_le (by rw[HL.out];exact Nat.le_refl _)]at h
     rw[HR.out]
     unfold Disk.word
     rw[h,HL.out,Bool.true_and,Bool.eq_iff_iff]
     simp
     omega
    have HW:=yh hw
    clear hw
    by_cases h1:1≤s.size
    · have i1:(1:Int)≤(s.size:Int):=by omega
      have e1:decide ((1:Int)≤(s.size:Int))=true:=by simpa using i1
      have E1:=yh e1
      clear e1
      go_wp2_with fail
      go_ret
      exact⟨by rw[HW.out,E1.out];rfl,rfl⟩
    · have i1:(s.size:Int)<1:=by omega
      have e1:decide ((1:Int)≤(s.size:Int))=false:=by simp;omega
      have E1:=yh e1
      clear e1
      go_wp2_with fail
      go_ret
      exact⟨by rw[HW.out,E1.out];rfl,rfl⟩
end
section
open Go.RowKit
structure Dk where
 armed:Bool
 left:Int
 down:Bool
def Dk.cells (m:Value)(s:Dk):List Value:=[m,.bool s.armed,.int .i64 s.left,.bool s.down]
def DkAt (W:World)(g:Nat)(m:Value)(s:Dk):Prop:=Row W g 73 (s.cells m)
theorem DkAt.box {W:World}{g:Nat}{m:Value}{s:Dk}(h:DkAt W g m s):W.cell? ⟨g,0,none⟩=some m∧W.cell? ⟨g,1,none⟩=some (.bool s.armed)∧W.cell? ⟨g,2,none⟩=some (.int .i64 s.left)∧W.cell? ⟨g,3,none⟩=some (.bool s.down):=
 ⟨Row.cell h 0 (by simp[Dk.cells]),Row.cell h 1 (by simp[Dk.cells]),Row.cell h 2 (by simp[Dk.cells]),Row.cell h 3 (by simp[Dk.cells])⟩
theorem yo3 (w:World):Calls Tryz.prog 35 #[.pointer none] w fun e w'=>e=.returned (.int .i64 1)∧w=w':=by
 go_enter Tryz.func35,Tryz.ntmps35
 go_wp2_with fail
 go_ret
 exact⟨rfl,rfl⟩
theorem yma {w:World}{g:Nat}{m:Value}{s:Dk}(h:DkAt w g m s):Calls Tryz.prog 35 #[.pointer (some ⟨g,0,none⟩)] w fun e w'=>e=.returned (.int .i64 (if s.down=true then 8 else 0))∧w=w':=by
 obtain⟨c0,c1,c2,c3⟩:=h.box
 obtain⟨a,l,d⟩:=s
 simp only at c0 c1 c2 c3
 clear h
 cases d
 · go_enter Tryz.func35,Tryz.ntmps35
   go_wp2_with fail
   go_ret
   exact⟨rfl,rfl⟩
 · go_enter Tryz.func35,Tryz.ntmps35
   go_wp2_with fail
   go_ret
   exact⟨rfl,rfl⟩
theorem yu1 {w:World}{g:Nat}{m:Value}{s:Dk}(h:DkAt w g m s):Calls Tryz.prog 36 #[.pointer (some ⟨g,0,none⟩)] w fun e w'=>e=.returned (.bool s.down)∧w=w':=by
 have HW:=yh (yma h)
 clear h
 obtain⟨a,l,d⟩:=s
 cases d
 · go_enter Tryz.func36,Tryz.ntmps36
   go_wp2_with fail
   refine HW.out.mono ?_
   rintro _ w1 ⟨rfl,rfl⟩
   go_wp2_with fail
   go_ret
   exact⟨rfl,rfl⟩
 · go_enter Tryz.func36,Tryz.ntmps36
   go_wp2_with fail
   refine HW.out.mono ?_
   rintro _ w1 ⟨rfl,rfl⟩
   go_wp2_with fail
   go_ret
   exact⟨rfl,rfl⟩
def Dk.one (s:Dk):Dk:=if s.armed=true then ⟨true,s.left-1,decide (s.left-1=0)⟩ else s
theorem yu2 {w:World}{g:Nat}{m:Value}{s:Dk}(h:DkAt w g m s)(hf:s.armed=true→1≤s.left∧s.left≤9223372036854775807):Calls Tryz.prog 84 #[.pointer (some ⟨g,0,none⟩)] w fun e w'=>e=.returned (.int .i64 0)∧DkAt w' g m s.one∧w.grownBy w' (some g):=by
 obtain⟨a,l,d⟩:=s
 cases a
 · obtain⟨c0,c1,c2,c3⟩:=h.box
   have H:=yh h
   simp only at c0 c1 c2 c3
   clear h hf
   go_enter Tryz.func84,Tryz.ntmps84
   go_wp2_with fail
   go_ret
   exact⟨rfl,H.out,yav _ _⟩
 · obtain⟨c0,c1,c2,c3⟩:=h.box
   simp only at c0 c1 c2 c3
   have hb:=hf rfl
   simp only at hb
   have f2:=Row.free h 2
   have f3:=Row.free h 3
   have s1:=Row.set h 2 (.int .i64 (l-1)) (by simp[Dk.cells])
   have s2:=Row.set s1 3 (.bool (decide (l-1=0))) (by simp[Dk.cells])
   have d2:=Row.cell s1 2 (by simp[Dk.cells])
   have g3:=Row.free s1 3
   simp only[Dk.cells,List.set_cons_succ,List.set_cons_zero,List.getElem_cons_succ,List.getElem_cons_zero]at d2
   have H2:=yh s2
   have hg1:=yaq w g 2 (.int .i64 (l-1))
   have hg2:=yaq (w.setCell ⟨g,2,none⟩ (.int .i64 (l-1))) g 3 (.bool (decide (l-1=0)))
   have HG:=yh (World.grownBy.trans hg1 hg2)
   have hw:IntKind.i64.wrap (l-1)=l-1:=IntWalk.i64_in _ (by omega)
   clear h hf s1 s2 hg1 hg2
   go_enter Tryz.func84,Tryz.ntmps84
   go_wp2_with fail
   go_ret
   exact⟨rfl,H2.out,HG.out⟩
end
section
open Go.RowKit
abbrev Sb (l:List UInt8):Value:=.string ⟨l.toArray⟩
structure Fl where
 name:List UInt8
 b:List UInt8
 safe:Int
namespace Fl
def cells (f:Fl):List Value:=[Sb f.name,Sb f.b,.int .i64 f.safe]
def flat (l:List Fl):List Value:=l.flatMap cells
def drop (l:List Fl)(nm:List UInt8):List Fl:=l.filter fun f=>decide (f.name≠nm)
end Fl
end
section
namespace Fl
abbrev Nm:=List UInt8
theorem yt1 (a b:Nm):a<b∨a=b∨b<a:=by
 by_cases h1:a<b
 · exact .inl h1
 · by_cases h2:b<a
   · exact .inr (.inr h2)
   · exact .inr (.inl (List.le_antisymm (List.not_lt.1 h2) (List.not_lt.1 h1)))
theorem yg1 (a:Nm) :¬a<a:=List.lt_irrefl a
theorem ymv {a b c:Nm}(h:a<b)(k:b<c):a<c:=List.lt_trans h k
theorem yn5 {a b:Nm}(h:a<b):a≠b:=fun e=>yg1 b (e ▸ h)
def Sorted (l:List Fl):Prop:=l.Pairwise fun a b=>a.name<b.name
def names (l:List Fl):List Nm:=l.map (·.name)
def find (l:List Fl)(nm:Nm):Option Fl:=l.find? fun f=>decide (f.name=nm)
theorem yc8 (nm:Nm):find [] nm=none:=rfl
theorem ybs (f:Fl)(l:List Fl)(nm:Nm):find (f::l) nm=if f.name=nm then some f else find l nm:=by
 unfold find
 rw[List.find?_cons]
 by_cases h:f.name=nm <;> simp[h]
theorem yd4 {l:List Fl}{nm:Nm}{f:Fl}(h:find l nm=some f):f.name=nm:=by
 have:=List.find?_some h
 simpa using this
theorem ycl {l:List Fl}{nm:Nm}{f:Fl}(h:find l nm=some f):f∈l:=List.mem_of_find?_eq_some h
theorem yre {l:List Fl}{nm:Nm} : find l nm=none↔∀f∈l,f.name≠nm:=by
 unfold find
 rw[List.find?_eq_none]
 simp
theorem yi9 {l:List Fl}{nm:Nm} : (find l nm).isSome=true↔nm∈names l:=by
 unfold find names
 rw[List.find?_isSome]
 simp
theorem Sorted.tail {f:Fl}{l:List Fl}(h:Sorted (f::l)):Sorted l:=(List.pairwise_cons.1 h).2
theorem Sorted.head {f:Fl}{l:List Fl}(h:Sorted (f::l)) :∀x∈l,f.name<x.name:=(List.pairwise_cons.1 h).1
theorem Sorted.find_of_mem {l:List Fl}(h:Sorted l){f:Fl}(hf:f∈l):find l f.name=some f:=by
 induction l with
 | nil=>cases hf
 | cons x l ih=>
   rw[ybs]
   rcases List.mem_cons.1 hf with rfl|hm
   · rw[if_pos rfl]
   · rw[if_neg (yn5 (h.head _ hm)),ih h.tail hm]
theorem Sorted.nodup {l:List Fl}(h:Sorted l):(names l).Nodup:=by
 unfold names
 rw[List.Nodup,List.pairwise_map]
 exact h.imp fun {a b} hab=>yn5 hab
def put:List Fl→Fl→List Fl
 | [],f=>[f]
 | x::l,f=>if x.name<f.name then x::put l f else if x.name=f.name then f::l else f::x::l
theorem yqo {l:List Fl}{f x:Fl}(h:x∈put l f):x=f∨x∈l:=by
 induction l with
 | nil=>simp[put]at h;exact .inl h
 | cons y l ih=>
   unfold put at h
   split at h
   · rcases List.mem_cons.1 h with rfl|h
     · exact .inr (by simp)
     · rcases ih h with h|h
       · exact .inl h
       · exact .inr (by simp[h])
   · split at h
     · rcases List.mem_cons.1 h with rfl|h
       · exact .inl rfl
       · exact .inr (by simp[h])
     · rcases List.mem_cons.1 h with rfl|h
       · exact .inl rfl
       · exact .inr h
theorem ymy {l:List Fl}(hs:Sorted l)(f:Fl)(nm:Nm):find (put l f) nm=if f.name=nm then some f else find l nm:=by
 induction l with
 | nil=>simp[put,ybs,yc8]
 | cons x l ih=>
   unfold put
   split
   · next hlt=>
     rw[ybs,ih hs.tail,ybs]
     by_cases h1:x.name=nm
     · have:f.name≠nm:=fun e=>yn5 hlt (h1.trans e.symm)
       simp[h1,this]
     · simp[h1]
   · split
     · next heq=>
       rw[ybs,ybs]
       by_cases h1:f.name=nm
       · simp[h1]
       · have:x.name≠nm:=fun e=>h1 (heq.symm.trans e)
         simp[h1,this]
     · rw[ybs]
theorem Sorted.put {l:List Fl}(hs:Sorted l)(f:Fl):Sorted (put l f):=by
 induction l with
 | nil=>exact List.pairwise_singleton _ _
 | cons x l ih=>
   unfold Fl.put
   split
   · next hlt=>
     refine List.pairwise_cons.2 ⟨fun y hy=>?_,ih hs.tail⟩
     rcases yqo hy with rfl|hy
     · exact hlt
     · exact hs.head _ hy
   · split
     · next heq=>exact List.pairwise_cons.2 ⟨fun y hy=>heq ▸ hs.head _ hy,hs.tail⟩
     · next hn hne=>
       have hfx:f.name<x.name:=by
        rcases yt1 x.name f.name with h|h|h
        · exact absurd h hn
        · exact absurd h hne
        · exact h
       refine List.pairwise_cons.2 ⟨fun y hy=>?_,hs⟩
       rcases List.mem_cons.1 hy with rfl|hy
       · exact hfx
       · exact ymv hfx (hs.head _ hy)
theorem yd9 (l:List Fl)(hs:Sorted l)(f:Fl):(put l f).length=l.length+if (find l f.name).isSome then 0 else 1:=by
 induction l with
 | nil=>simp[put,yc8]
 | cons x l ih=>
   unfold put
   rw[ybs]
   split
   · next hlt=>simp[yn5 hlt,ih hs.tail];omega
   · split
     · next heq=>simp[heq]
     · next hn hne=>
       have hfx:f.name<x.name:=by
        rcases yt1 x.name f.name with h|h|h
        · exact absurd h hn
        · exact absurd h hne
        · exact h
       have hnone:find l f.name=none:=yre.2 fun y hy e=>yn5 (ymv hfx (hs.head _ hy)) e.symm
       simp[hne,hnone]
theorem yb4 {l:List Fl}(hs:Sorted l){f x:Fl}(h:x∈put l f):x=f∨(x∈l∧x.name≠f.name):=by
 have h2:=(hs.put f).find_of_mem h
 rw[ymy hs]at h2
 by_cases e:f.name=x.name
 · rw[if_pos e]at h2;injection h2 with h2;exact .inl h2.symm
 · rw[if_neg e]at h2;exact .inr ⟨ycl h2,fun e2=>e e2.symm⟩
theorem yrf (l:List Fl)(nm n2:Nm):find (drop l nm) n2=if n2=nm then none else find l n2:=by
 induction l with
 | nil=>simp[drop,yc8]
 | cons x l ih=>
   have e:drop (x::l) nm=if x.name=nm then drop l nm else x::drop l nm:=by
    unfold drop;by_cases h:x.name=nm <;> simp[h]
   rw[e,ybs]
   by_cases h:x.name=nm
   · rw[if_pos h,ih]
     by_cases h2:n2=nm
     · simp[h2]
     · rw[if_neg h2,if_neg h2,if_neg (fun e2=>h2 (e2.symm.trans h))]
   · rw[if_neg h,ybs,ih]
     by_cases h2:n2=nm
     · subst h2;simp[h]
     · simp[h2]
theorem Sorted.drop {l:List Fl}(hs:Sorted l)(nm:Nm):Sorted (drop l nm):=List.Pairwise.filter _ hs
theorem ydr {l:List Fl}{nm:Nm}{x:Fl} : x∈drop l nm↔x∈l∧x.name≠nm:=by simp[drop,List.mem_filter]
theorem length_drop (l:List Fl)(nm:Nm):(drop l nm).length≤l.length:=List.length_filter_le _ _
theorem ye2 {l:List Fl}(hs:Sorted l){nm:Nm}(h:(find l nm).isSome=true):(drop l nm).length+1=l.length:=by
 induction l with
 | nil=>simp[yc8]at h
 | cons x l ih=>
   have e:drop (x::l) nm=if x.name=nm then drop l nm else x::drop l nm:=by
    unfold drop;by_cases h:x.name=nm <;> simp[h]
   rw[e]
   by_cases hx:x.name=nm
   · rw[if_pos hx]
     have:drop l nm=l:=List.filter_eq_self.2 fun y hy=>by
      have:=yn5 (hs.head _ hy)
      simp only[decide_eq_true_eq];intro e;exact this (hx.trans e.symm)
     rw[this];rfl
   · rw[ybs,if_neg hx]at h
     rw[if_neg hx,List.length_cons,ih hs.tail h];rfl
end Fl
end
section
open Go.RowKit Go.Maps
abbrev cel8 (bs:List UInt8):List Value:=bs.map fun b=>Value.int .u8 (b.toNat:Int)
def heldV (v:Value):Option (DataW Value×List MemPlace):=some (.held v,[])
abbrev Fv (v:Value)(s:Int):Value:=.agg #[v,.int .i64 s]
theorem lawS:Keyed Tryz.prog 9:=string_keyed Tryz.underlying9
abbrev KS (x:List UInt8):Lit:=.string x
theorem yo0 {x y:List UInt8}(h:x≠y):KS x≠KS y:=fun e=>h (by injection e)
theorem keyS (x:List UInt8)(h:x.length≤maxLen):keyOf Tryz.prog 9 (Sb x)=some (KS x):=Go.WideMaps.keyOf_string_mk Tryz.underlying9 (s:=⟨x.toArray⟩) (show x.toArray.size≤maxLen by simpa using h)
structure Chg (S:Nat→Prop)(w w':World):Prop where
 os:w'.os=w.os
 tape:w'.tape=w.tape
 output:w'.output=w.output
 size:w.heap.size≤w'.heap.size
 block :∀k,k<w.heap.size→¬S k→w'.heap[k]? = w.heap[k]?
theorem Chg.refl (S:Nat→Prop)(w:World):Chg S w w:=⟨rfl,rfl,rfl,Nat.le_refl _,fun _ _ _=>rfl⟩
theorem Chg.trans {S S2:Nat→Prop}{a b c:World}(h:Chg S a b)(k:Chg S2 b c)(hS :∀i,S2 i→S i∨a.heap.size≤i):Chg S a c:=
 ⟨k.os.trans h.os,k.tape.trans h.tape,k.output.trans h.output,Nat.le_trans h.size k.size,fun i hi hn=>
  (k.block i (Nat.lt_of_lt_of_le hi h.size) (fun h2=>by rcases hS i h2 with h3|h3 <;> first|exact hn h3|omega)).trans (h.block i hi hn)⟩
theorem Chg.mono {S S2:Nat→Prop}{a b:World}(h:Chg S a b)(hS :∀i,S i→S2 i):Chg S2 a b:=⟨h.os,h.tape,h.output,h.size,fun i hi hn=>h.block i hi (fun h2=>hn (hS i h2))⟩
theorem Chg.yat {S:Nat→Prop}{w w':World}{r:Option Nat}(h:w.grownBy w' r)(hr :∀k,r=some k→S k∨w.heap.size≤k):Chg S w w':=
 ⟨h.os,h.tape,h.output,h.size,fun i hi hn=>h.block i hi (fun e=>by rcases hr i e.symm with h3|h3 <;> first|exact hn h3|omega)⟩
theorem Chg.ya6 {S:Nat→Prop}{w w':World}(h:Below w.heap.size w w'):Chg S w w':=⟨h.os,h.tape,h.output,h.size,fun i hi _=>h.block i hi⟩
theorem Chg.below {S:Nat→Prop}{w w':World}{B:Nat}(h:Chg S w w')(hB:B≤w.heap.size)(hS :∀k,S k→B≤k):Below B w w':=
 ⟨h.os,h.tape,h.output,h.size,fun i hi=>h.block i (by omega) (fun h2=>by have:=hS i h2;omega)⟩
theorem Chg.grown {S:Nat→Prop}{w w':World}(h:Chg S w w'){r:Option Nat}(hS :∀k,S k→some k=r):w.grownBy w' r:=
 ⟨h.os,h.tape,h.output,h.size,fun i hi hn=>h.block i hi (fun h2=>hn (hS i h2))⟩
def View (D:DataW Value)(l:List Fl)(V:Fl.Nm→Value):Prop:=
 IsMap D∧∀nm,(∀f,Fl.find l nm=some f→has D (KS nm)=true∧∀z,D.atKey (KS nm) z=.held (Fv (V nm) f.safe))∧(Fl.find l nm=none→has D (KS nm)=false)
theorem View.empty (V:Fl.Nm→Value):View (.map []) [] V:=⟨isMap_empty,fun nm=>⟨fun f h=>(by rw[Fl.yc8]at h;cases h),fun _=>rfl⟩⟩
theorem View.put {D:DataW Value}{l:List Fl}{V:Fl.Nm→Value}(h:View D l V)(hs:Fl.Sorted l)(f:Fl)(v:Value):
 View (D.put (KS f.name) (.held (Fv v f.safe))) (Fl.put l f) (fun x=>if x=f.name then v else V x):=by
 refine⟨h.1.put _ _,fun nm=>?_⟩
 rw[Fl.ymy hs]
 by_cases hn:f.name=nm
 · subst hn
   simp only[↓reduceIte]
   refine⟨fun g hg=>?_,fun hg=>(by cases hg)⟩
   cases hg
   exact⟨has_put_same (k:=KS f.name) h.1 trivial _,fun z=>atKey_put_same (k:=KS f.name) h.1 trivial _ _⟩
 · have hn2 :¬nm=f.name:=fun e=>hn e.symm
   simp only[if_neg hn,if_neg hn2]
   refine⟨fun g hg=>?_,fun hg=>?_⟩
   · obtain⟨h1,h2⟩:=(h.2 nm).1 g hg
     exact⟨(has_put_other (yo0 hn2) _).trans h1,fun z=>by rw[atKey_put_other (yo0 hn2)];exact h2 z⟩
   · exact(has_put_other (yo0 hn2) _).trans ((h.2 nm).2 hg)
theorem View.del {D:DataW Value}{l:List Fl}{V:Fl.Nm→Value}(h:View D l V)(x:Fl.Nm):View (D.del (KS x)) (Fl.drop l x) V:=by
 refine⟨h.1.del _,fun nm=>?_⟩
 rw[Fl.yrf]
 by_cases hn:nm=x
 · subst hn
   simp only[↓reduceIte]
   exact⟨fun g hg=>(by cases hg),fun _=>has_del_same⟩
 · simp only[if_neg hn]
   refine⟨fun g hg=>?_,fun hg=>?_⟩
   · obtain⟨h1,h2⟩:=(h.2 nm).1 g hg
     exact⟨(has_del_other (yo0 hn)).trans h1,fun z=>by rw[atKey_del_other (yo0 hn)];exact h2 z⟩
   · exact(has_del_other (yo0 hn)).trans ((h.2 nm).2 hg)
theorem View.congr {D:DataW Value}{l:List Fl}{V V2:Fl.Nm→Value}(h:View D l V)(e :∀f∈l,V f.name=V2 f.name):View D l V2:=by
 refine⟨h.1,fun nm=>⟨fun f hf=>?_,(h.2 nm).2⟩⟩
 obtain⟨h1,h2⟩:=(h.2 nm).1 f hf
 refine⟨h1,fun z=>?_⟩
 have:=e f (Fl.ycl hf)
 rw[Fl.yd4 hf]at this
 rw[←this];exact h2 z
theorem View.has {D:DataW Value}{l:List Fl}{V:Fl.Nm→Value}(h:View D l V)(nm:Fl.Nm):has D (KS nm)=(Fl.find l nm).isSome:=by
 rcases hf:Fl.find l nm with _|f
 · exact(h.2 nm).2 hf
 · exact((h.2 nm).1 f hf).1
theorem View.perm {w:World}{M n:Nat}{D:DataW Value}{l:List Fl}{V:Fl.Nm→Value}(hown:w.ownsMap Tryz.prog 9 heldV M n D)(h:View D l V)(hs:Fl.Sorted l):(Fl.names l).Perm (strKeys D):=by
 obtain⟨es,hD,hpw,_⟩:=hown.entries lawS
 obtain⟨es',hD',hko⟩:=hown.keysOf
 obtain rfl:es=es':=by rw[hD]at hD';simpa using hD'
 subst hD
 exact perm_strKeys hpw (fun p hp=>by obtain⟨v,hv⟩:=hko p hp;obtain⟨x,_,hx,_⟩:=Maps.keyOf_str Tryz.underlying9 hv;exact⟨x,hx⟩) hs.nodup (fun x=>by rw[h.has,Fl.yi9])
theorem View.size {w:World}{M n:Nat}{D:DataW Value}{l:List Fl}{V:Fl.Nm→Value}(hown:w.ownsMap Tryz.prog 9 heldV M n D)(h:View D l V)(hs:Fl.Sorted l):Maps.size D=l.length:=by
 have hp:=(View.perm hown h hs).length_eq
 obtain⟨es,rfl⟩:=h.1
 rw[size_eq]
 simpa[strKeys,Fl.names] using hp.symm
theorem yqf {w:World}{M n:Nat}{D:DataW Value}(h:w.ownsMap Tryz.prog 9 heldV M n D):w.ownsMap Tryz.prog 9 heldV M (Maps.size D) D:=by
 obtain⟨es,clock,hb,F,hs,rfl⟩:=h
 exact⟨es,clock,hb,F,by simp[Maps.size,DataW.length_sorted],rfl⟩
def MapAt (w:World)(M:Nat)(l:List Fl)(V:Fl.Nm→Value):Prop :=∃D,w.ownsMap Tryz.prog 9 heldV M l.length D∧View D l V
theorem MapAt.mk {w:World}{M n:Nat}{D:DataW Value}{l:List Fl}{V:Fl.Nm→Value}(hown:w.ownsMap Tryz.prog 9 heldV M n D)(h:View D l V)(hs:Fl.Sorted l):MapAt w M l V:=
 ⟨D,by have:=yqf hown;rwa[View.size hown h hs]at this,h⟩
theorem MapAt.lt {w:World}{M:Nat}{l:List Fl}{V:Fl.Nm→Value}(h:MapAt w M l V):M<w.heap.size:=by
 obtain⟨D,hD,_⟩:=h
 exact hD.lt
theorem MapAt.kept {w w':World}{M:Nat}{l:List Fl}{V:Fl.Nm→Value}{r:Option Nat}(h:MapAt w M l V)(hg:w.grownBy w' r)(hr:some M≠r):MapAt w' M l V:=by
 obtain⟨D,hD,hV⟩:=h
 exact⟨D,hD.kept hg hr,hV⟩
def DkOk (s:Dk)(r:Int):Prop:=(s.armed=false∧s.down=false∧r = -1)∨(s.armed=true∧s.left=r∧0≤r∧r≤9223372036854775807∧s.down=decide (r=0))
theorem DkOk.down {s:Dk}{r:Int}(h:DkOk s r):s.down=decide (r=0):=by
 rcases h with⟨_,h,rfl⟩|⟨_,_,_,_,h⟩
 · rw[h];simp
 · exact h
def FileOk (f:Fl):Prop:=0≤f.safe∧f.safe≤f.b.length∧f.b.length≤1048576∧f.name.length≤16
structure DiskIn (w:World)(B g M:Nat)(V:Fl.Nm→Value)(l:List Fl)(r:Int):Prop where
 row :∃s:Dk,DkAt w g (.map (some M)) s∧DkOk s r
 map:MapAt w M l V
 files :∀f∈l,w.ownsRow B 5 1 (V f.name) f.b.length (cel8 f.b)
 apart :∀f∈l,∀f'∈l,f.name≠f'.name→∀k,(V f.name).ownBlock=some k→(V f'.name).ownBlock≠some k
 sorted:Fl.Sorted l
 len:l.length≤8
 ok :∀f∈l,FileOk f
 lo:B≤g∧B≤M
def DiskOwn (g M:Nat)(l:List Fl)(V:Fl.Nm→Value)(k:Nat):Prop:=k=g∨k=M∨∃f∈l,(V f.name).ownBlock=some k
def DiskS (w:World)(B:Nat)(S:Nat→Prop)(g:Nat)(l:List Fl)(r:Int):Prop:=
 (∀k,S k→B≤k∧k<w.heap.size)∧∃M V,DiskIn w B g M V l r∧∀k,DiskOwn g M l V k→S k
theorem Chg.ownsRow {S:Nat→Prop}{w w':World}(h:Chg S w w'){B:Nat}{e:TypeId}{n sz:Nat}{v:Value}{xs:List Value}(ho:w.ownsRow B e sz v n xs)(hS :∀k,v.ownBlock=some k→¬S k):w'.ownsRow B e sz v n xs:=by
 obtain⟨h1,h2⟩:=ho
 refine⟨h1,?_⟩
 rcases h2 with h2|⟨g,cap,cur,hv,hb,hh,rest⟩
 · exact .inl h2
 · refine .inr ⟨g,cap,cur,hv,hb,?_,rest⟩
   rw[h.block g (lt_of_block hh) (hS g (by rw[hv];rfl))]
   exact hh
theorem Chg.row {S:Nat→Prop}{w w':World}(h:Chg S w w'){g:Nat}{T:TypeId}{xs:List Value}(hr:Row w g T xs)(hS :¬S g):Row w' g T xs:=(h.block g hr.lt hS).trans hr
theorem Chg.map {S:Nat→Prop}{w w':World}(h:Chg S w w'){M n:Nat}{D:DataW Value}(hm:w.ownsMap Tryz.prog 9 heldV M n D)(hS :¬S M):w'.ownsMap Tryz.prog 9 heldV M n D:=by
 obtain⟨es,clock,hb,rest⟩:=hm
 exact⟨es,clock,(h.block M (lt_of_block hb) hS).trans hb,rest⟩
theorem DiskIn.kept {w w':World}{B g M:Nat}{V:Fl.Nm→Value}{l:List Fl}{r:Int}{T:Nat→Prop}(h:DiskIn w B g M V l r)(hc:Chg T w w')(hT :∀k,DiskOwn g M l V k→¬T k):DiskIn w' B g M V l r:=by
 obtain⟨⟨s,hs,hk⟩,⟨D,hD,hV⟩,hf,ha,ho,hl,hok,hlo⟩:=h
 exact⟨⟨s,hc.row hs (hT _ (.inl rfl)),hk⟩,⟨D,hc.map hD (hT _ (.inr (.inl rfl))),hV⟩,fun f hm=>hc.ownsRow (hf f hm) (fun k e=>hT k (.inr (.inr ⟨f,hm,e⟩))),ha,ho,hl,hok,hlo⟩
theorem DiskS.kept {w w':World}{B g:Nat}{S T:Nat→Prop}{l:List Fl}{r:Int}(h:DiskS w B S g l r)(hc:Chg T w w')(hT :∀k,S k→¬T k):DiskS w' B S g l r:=by
 obtain⟨hz,M,V,hd,ho⟩:=h
 exact⟨fun k hk=>⟨(hz k hk).1,Nat.lt_of_lt_of_le (hz k hk).2 hc.size⟩,M,V,hd.kept hc (fun k hk=>hT k (ho k hk)),ho⟩
def Plus (S:Nat→Prop)(w w':World)(k:Nat):Prop:=S k∨(w.heap.size≤k∧k<w'.heap.size)
theorem DiskIn.apart_gM {w:World}{B g M:Nat}{V:Fl.Nm→Value}{l:List Fl}{r:Int}(h:DiskIn w B g M V l r):g≠M:=by
 rintro rfl
 obtain⟨s,hs,_⟩:=h.row
 obtain⟨D,⟨es,clock,hb,_⟩,_⟩:=h.map
 unfold DkAt Row at hs
 rw[hs]at hb
 simp at hb
theorem DiskIn.apart_f {w:World}{B g M:Nat}{V:Fl.Nm→Value}{l:List Fl}{r:Int}(h:DiskIn w B g M V l r){f:Fl}(hf:f∈l){k:Nat}(hk:(V f.name).ownBlock=some k):k≠g∧k≠M:=by
 have ho:=h.files f hf
 rcases ho.2 with⟨e,_⟩|⟨q,cap,cur,hv,hb,hh,_⟩
 · rw[e]at hk;cases hk
 · rw[hv]at hk
   cases hk
   constructor
   · rintro rfl
     obtain⟨s,hs,_⟩:=h.row
     unfold DkAt Row at hs
     rw[hs]at hh
     simp at hh
   · rintro rfl
     obtain⟨D,⟨es,clock,hb2,_⟩,_⟩:=h.map
     rw[hh]at hb2
     simp at hb2
theorem zeroF (w:World):(zeroValue 87).run Tryz.prog w=.ok (Fv (.slice none 0 0) 0) w:=by kernel_rfl
theorem yc7 {P:Program}{fn:Func}{p u:Tmp}{ty:TypeId}(h:fn.results=#[.cell p ty,.tmp u])(tmps:Array Value)(w:World)(g:Nat)(T:TypeId)(xs:List Value)(d:TypeDesc)
 (hp:tmps.getD p undef=.pointer (some ⟨g,0,none⟩)) (hg:Row w g T xs)
 (hu:P.underlying ty=some d) (hd:(match d with | .struct _ | .array _ _=>true|_=>false)=true) (hi:(P.info? ty).map (·.size)=some xs.toArray.size) (x:Value) (hx:tmps.getD u undef=x):
 (results fn tmps).run P w=.ok (.tuple #[.agg xs.toArray,x]) w:=by
 rw[results_cell_tmp h,hp]
 have hl:=run_loadVar_row w g T ty xs.toArray (0,0) d hg hu hd hi
 have ha:(asAddr (.pointer (some ⟨g,0,none⟩))).run P w=.ok ⟨g,0,none⟩ w:=rfl
 rw[ha]
 simp only[Result.andThen,hl,hx]
end
section
open Go.RowKit Go.Maps
theorem ypo {w:World}{M n:Nat}{D:DataW Value}{l:List Fl}{V:Fl.Nm→Value}(hown:w.ownsMap Tryz.prog 9 heldV M n D)(hV:View D l V)(c:Bool)(nm:Fl.Nm)(hn:nm.length≤maxLen):
 (Instr.lookup 71 (.map (some M)) (Sb nm) c).run Tryz.prog w =
  .ok (if c then .tuple #[(match Fl.find l nm with|none=>Fv (.slice none 0 0) 0|some f=>Fv (V nm) f.safe),.bool (Fl.find l nm).isSome] else (match Fl.find l nm with|none=>Fv (.slice none 0 0) 0|some f=>Fv (V nm) f.safe)) w:=by
 obtain⟨es,clock,hb,F,_,rfl⟩:=hown
 rcases Maps.fit_look c lawS Tryz.underlying71 (zeroF w) hb F (keyS nm hn) with⟨hrun,_,hat⟩|⟨e0,y,_,_,hrun,hRv,hat,_⟩
 · rcases hf:Fl.find l nm with _|f
   · rw[hrun];rfl
   · have h1:=((hV.2 nm).1 f hf).2 .nil
     rw[hat]at h1
     cases h1
 · rcases hf:Fl.find l nm with _|f
   · have h1:=(hV.2 nm).2 hf
     rw[Maps.has_true_of_atKey hat]at h1
     cases h1
   · have h1:=((hV.2 nm).1 f hf).2 .nil
     rw[hat]at h1
     unfold heldV at hRv
     injection hRv with hRv
     rw[←hRv]at h1
     injection h1 with h1
     rw[hrun,h1];rfl
theorem yfh (w:World){ops:Array Oper}{rest:List Oper}{o:Oper}{a:Act}{Q:Exit→Act→World→Prop}(hg:o.guard=none)(m x:Operand)(c:Bool)(hop:o.op=Op.lookup 71 m x c)
 {M n:Nat}{D:DataW Value}{l:List Fl}{V:Fl.Nm→Value}(nm:Fl.Nm) (hm:a.eval m=.map (some M)) (hown:w.ownsMap Tryz.prog 9 heldV M n D) (hV:View D l V) (hx:a.eval x=Sb nm) (hn:nm.length≤maxLen)
 (hK:wpList Tryz.prog ops Q rest (a.put o.dst (if c then .tuple #[(match Fl.find l nm with|none=>Fv (.slice none 0 0) 0|some f=>Fv (V nm) f.safe),.bool (Fl.find l nm).isSome] else (match Fl.find l nm with|none=>Fv (.slice none 0 0) 0|some f=>Fv (V nm) f.safe))) w):
 wpList Tryz.prog ops Q (o::rest) a w:=by
 refine wpList_plain hg fun K' hK'=>?_
 have hrun:=ypo hown hV c nm hn
 unfold Oper.wp
 simp[execOp,hop,hm,hx,hrun,Result.andThen]
 exact hK' _ _ hK
theorem ye7 (w:World){ops:Array Oper}{rest:List Oper}{o:Oper}{a:Act}{Q:Exit→Act→World→Prop}(hg:o.guard=none)(m x:Operand)(hop:o.op=Op.lookup 71 m x true)
 {M n:Nat}{D:DataW Value}{l:List Fl}{V:Fl.Nm→Value}(nm:Fl.Nm) (hm:a.eval m=.map (some M)) (hown:w.ownsMap Tryz.prog 9 heldV M n D) (hV:View D l V) (hx:a.eval x=Sb nm) (hn:nm.length≤maxLen) (hf:Fl.find l nm=none)
 (hK:wpList Tryz.prog ops Q rest (a.put o.dst (.tuple #[Fv (.slice none 0 0) 0,.bool false])) w):
 wpList Tryz.prog ops Q (o::rest) a w:=by
 refine yfh w hg m x true hop nm hm hown hV hx hn ?_
 rw[hf];exact hK
theorem ye6 (w:World){ops:Array Oper}{rest:List Oper}{o:Oper}{a:Act}{Q:Exit→Act→World→Prop}(hg:o.guard=none)(m x:Operand)(hop:o.op=Op.lookup 71 m x true)
 {M n:Nat}{D:DataW Value}{l:List Fl}{V:Fl.Nm→Value}(nm:Fl.Nm) (hm:a.eval m=.map (some M)) (hown:w.ownsMap Tryz.prog 9 heldV M n D) (hV:View D l V) (hx:a.eval x=Sb nm) (hn:nm.length≤maxLen) (f:Fl) (hf:Fl.find l nm=some f)
 (v:Value) (s:Int) (hv:V nm=v) (hs:f.safe=s) (hK:wpList Tryz.prog ops Q rest (a.put o.dst (.tuple #[Fv v s,.bool true])) w):
 wpList Tryz.prog ops Q (o::rest) a w:=by
 refine yfh w hg m x true hop nm hm hown hV hx hn ?_
 rw[hf];subst hv;subst hs;exact hK
theorem yex {w:World}{base n:Nat}{e:TypeId}{v:Value}{xs:List Value}(h:w.ownsRow base e 1 v n xs) :∃a c,v=.slice a n c:=by
 rcases h.2 with⟨rfl,h0⟩|⟨g,cap,cur,rfl,_⟩
 · exact⟨none,0,by rw[h0]⟩
 · exact⟨_,_,rfl⟩
def findR (V:Fl.Nm→Value)(l:List Fl)(r:Int)(nm:Fl.Nm):Value×Int×Int:=
 if r=0 then (.slice none 0 0,0,8) else match Fl.find l nm with|none=>(.slice none 0 0,0,34)|some f=>(V nm,f.safe,0)
theorem yc8 (nm:Fl.Nm)(w:World):Calls Tryz.prog 83 #[.pointer none,Sb nm] w fun e w'=>e=.returned (.tuple #[Fv (.slice none 0 0) 0,.int .i64 1])∧Below w.heap.size w w':=by
 have hr:=Row.new w 87 [.slice none 0 0,.int .i64 0]
 have hb:Below w.heap.size w (w.alloc (.cells #[.slice none 0 0,.int .i64 0] 87)):=(Below.refl _ _).alloc (Nat.le_refl _) _
 have Hr:=yh hr
 have Hb:=yh hb
 clear hr hb
 go_enter Tryz.func83,Tryz.ntmps83
 go_wp2_with fail
 refine(yo3 _).mono ?_
 rintro _ w1 ⟨rfl,rfl⟩
 go_wp2_with fail
 refine bodyPost_ret (yc7 rfl _ _ (w.heap.size) 87 _ _ rfl Hr.out Tryz.underlying87 rfl (by kernel_rfl) _ rfl) rfl ⟨rfl,Hb.out⟩
theorem yuy {w:World}{B g M:Nat}{V:Fl.Nm→Value}{l:List Fl}{r:Int}(nm:Fl.Nm)(hd:DiskIn w B g M V l r)(hn:nm.length≤maxLen):
 Calls Tryz.prog 83 #[.pointer (some ⟨g,0,none⟩),Sb nm] w fun e w'=>e=.returned (.tuple #[Fv (findR V l r nm).1 (findR V l r nm).2.1,.int .i64 (findR V l r nm).2.2])∧Below w.heap.size w w':=by
 obtain⟨s,hs,hk⟩:=hd.row
 obtain⟨D,hD,hV⟩:=hd.map
 have hdown:=hk.down
 have hr:=Row.new w 87 [.slice none 0 0,.int .i64 0]
 have hb:Below w.heap.size w (w.alloc (.cells #[.slice none 0 0,.int .i64 0] 87)):=(Below.refl _ _).alloc (Nat.le_refl _) _
 have hs1:=hs.below hb
 have hD1:(w.alloc (.cells #[.slice none 0 0,.int .i64 0] 87)).ownsMap Tryz.prog 9 heldV M l.length D:=hD.kept (yaw _ _ none) (by simp)
 have HW:=yh (yma (show DkAt (w.alloc (.cells #[.slice none 0 0,.int .i64 0] 87)) g (.map (some M)) s from hs1))
 have c0:(w.alloc (.cells #[.slice none 0 0,.int .i64 0] 87)).cell? ⟨g,0,none⟩=some (.map (some M)):=(DkAt.box hs1).1
 have hgl:g≠w.heap.size:=by have:g<w.heap.size:=Row.lt hs;omega
 rw[hdown]at HW
 have hr0:=hr
 have Hr:=yh hr
 have Hb:=yh hb
 have HD1:=yh hD1
 have HV:=yh hV
 have HN:=yh hn
 have HFl:=yh hd.files
 clear hs hk hD hV hdown hr hb hs1 hD1 hd hn
 obtain⟨R,hR⟩ :∃R,R=findR V l r nm:=⟨_,rfl⟩
 rw[←hR]
 unfold findR at hR
 by_cases h0:r=0
 · have HWd:Hid (Calls Tryz.prog 35 #[.pointer (some ⟨g,0,none⟩)] (w.alloc (.cells #[.slice none 0 0,.int .i64 0] 87)) fun e w'=>e=.returned (.int .i64 8)∧(w.alloc (.cells #[.slice none 0 0,.int .i64 0] 87))=w'):=yh (by have:=HW.out;rw[h0]at this;exact this)
   rw[if_pos h0]at hR
   subst hR
   clear h0 HW
   go_enter Tryz.func83,Tryz.ntmps83
   go_wp2_with fail
   refine HWd.out.mono ?_
   rintro _ w2 ⟨rfl,rfl⟩
   go_wp2_with fail
   refine bodyPost_ret (yc7 rfl _ _ (w.heap.size) 87 _ _ rfl Hr.out Tryz.underlying87 rfl (by kernel_rfl) _ rfl) rfl ⟨rfl,Hb.out⟩
 · have HWd:Hid (Calls Tryz.prog 35 #[.pointer (some ⟨g,0,none⟩)] (w.alloc (.cells #[.slice none 0 0,.int .i64 0] 87)) fun e w'=>e=.returned (.int .i64 0)∧(w.alloc (.cells #[.slice none 0 0,.int .i64 0] 87))=w'):=yh (by have:=HW.out;rw[decide_eq_false h0]at this;exact this)
   rw[if_neg h0]at hR
   have HR:=yh hR
   clear h0 HW hR
   go_enter Tryz.func83,Tryz.ntmps83
   go_wp2_with fail
   refine HWd.out.mono ?_
   rintro _ w2 ⟨rfl,rfl⟩
   rcases hf:Fl.find l nm with _|f
   · have Hf:=yh hf
     have HR2:Hid (R=(.slice none 0 0,0,34)):=yh (by have:=HR.out;rw[hf]at this;exact this)
     clear hf HR
     have hr2:=hr0.below (Below.alloc (Below.refl _ _) (Nat.le_refl _) (.cells #[.slice none 0 0,.int .i64 0] 87))
     have hb2:Below w.heap.size w ((w.alloc (.cells #[.slice none 0 0,.int .i64 0] 87)).alloc (.cells #[.slice none 0 0,.int .i64 0] 87)):=Hb.out.alloc Hb.out.size _
     have Hr2:=yh hr2
     have Hb2:=yh hb2
     clear hr2 hb2 hr0
     go_wp2_with (at_lookup;refine ye7 _ rfl _ _ rfl nm rfl HD1.out HV.out rfl HN.out Hf.out ?_)
     rw[HR2.out]
     refine bodyPost_ret (yc7 rfl _ _ (w.heap.size) 87 _ _ rfl Hr2.out Tryz.underlying87 rfl (by kernel_rfl) _ rfl) rfl ⟨rfl,Hb2.out⟩
   · have Hf:=yh hf
     obtain⟨A,c,hv⟩:=yex (HFl.out f (Fl.ycl hf))
     rw[Fl.yd4 hf]at hv
     have HR2:Hid (R=(.slice A f.b.length c,f.safe,0)):=yh (by have:=HR.out;rw[hf,hv]at this;exact this)
     have Hv:=yh hv
     generalize f.b.length=n at *
     obtain⟨sf,hsf⟩:=yx (f.safe)
     rw[hsf]at HR2
     have Hsf:=yh hsf
     clear hf HR hv hsf
     have hr2:Row ((w.alloc (.cells #[.slice A n c,.int .i64 sf] 87)).alloc (.cells #[.slice A n c,.int .i64 sf] 87)) w.heap.size 87 [.slice A n c,.int .i64 sf]:=
      (Row.new w 87 [.slice A n c,.int .i64 sf]).below (Below.alloc (Below.refl _ _) (Nat.le_refl _) _)
     have hb2:Below w.heap.size w ((w.alloc (.cells #[.slice A n c,.int .i64 sf] 87)).alloc (.cells #[.slice A n c,.int .i64 sf] 87)):=((Below.refl _ _).alloc (Nat.le_refl _) _).alloc (by simp) _
     have Hr2:=yh hr2
     have Hb2:=yh hb2
     clear hr2 hb2 hr0
     go_wp2_with (at_lookup;refine ye6 _ rfl _ _ rfl nm rfl HD1.out HV.out rfl HN.out f Hf.out _ _ Hv.out Hsf.out ?_)
     rw[HR2.out]
     refine bodyPost_ret (yc7 rfl _ _ (w.heap.size) 87 _ _ rfl Hr2.out Tryz.underlying87 rfl (by kernel_rfl) _ rfl) rfl ⟨rfl,Hb2.out⟩
end
section
open Go.RowKit Go.Maps
theorem yqc {P:Program}{w:World}{base e n:Nat}{v:Value}{bs:List UInt8}(h:w.ownsRow base e 1 v n (cel8 bs))(hn:n=bs.length)(src:TypeId)(hs:P.underlying src=some (.slice e))(he:P.underlying e=some (.int .u8))
 (dst:TypeId) (hd:P.underlying dst=some .string):(convert src dst v).run P w=.ok (Sb bs) w:=by
 subst hn
 rcases h.2 with⟨rfl,h0⟩|⟨g,cap,cur,rfl,_⟩
 · have hb:bs=[]:=List.eq_nil_of_length_eq_zero h0
   subst hb
   exact run_convert_bytes_nil (P:=P) w src e hs he 0 0 dst hd
 · have hc:=h.cells (g:=g) rfl
   have hr:=run_convert_bytes_arg (P:=P) w src e hs he g 0 bs.length cap (bs.map fun b=>(b.toNat:Int)) (by simp) (fun i hi=>by
    have hi':i<bs.length:=hi
    have h1:=hc i (.int .u8 (bs[i].toNat:Int)) (by simp[cel8,hi'])
    have e1:(⟨g,0,none⟩:Addr).add i=⟨g,0+i,none⟩:=by simp[Addr.add];try omega
    rw[e1]at h1
    rw[h1];simp[List.getD,hi']) dst hd
   rw[hr]
   congr 2
   unfold strOfNums
   congr 2
   rw[List.map_map]
   conv=>rhs;rw[←List.map_id bs]
   apply List.map_congr_left
   intro b _
   simp
def codeR (l:List Fl)(r:Int)(nm:Fl.Nm):Int:=if r=0 then 8 else if (Fl.find l nm).isSome=true then 0 else 34
def bytesR (l:List Fl)(r:Int)(nm:Fl.Nm):List UInt8:=if r=0 then [] else match Fl.find l nm with|none=>[]|some f=>f.b
def safeR (l:List Fl)(r:Int)(nm:Fl.Nm):Int:=if r=0 then 0 else match Fl.find l nm with|none=>0|some f=>f.safe
theorem yth (V:Fl.Nm→Value)(l:List Fl)(r:Int)(nm:Fl.Nm):(findR V l r nm).2.2=codeR l r nm∧(findR V l r nm).2.1=safeR l r nm:=by
 unfold findR codeR safeR
 by_cases h:r=0
 · simp[h]
 · rcases hf:Fl.find l nm with _|f <;> simp[h,hf]
theorem yha {w:World}{B g M:Nat}{V:Fl.Nm→Value}{l:List Fl}{r:Int}(hd:DiskIn w B g M V l r)(nm:Fl.Nm):
 w.ownsRow B 5 1 (findR V l r nm).1 (bytesR l r nm).length (cel8 (bytesR l r nm)):=by
 unfold findR bytesR
 by_cases h:r=0
 · simp only[h,↓reduceIte];exact World.ownsRow_nil _ _ _ _
 · rcases hf:Fl.find l nm with _|f
   · simp only[h,↓reduceIte];exact World.ownsRow_nil _ _ _ _
   · simp only[h,↓reduceIte]
     have:=hd.files f (Fl.ycl hf)
     rw[Fl.yd4 hf]at this
     exact this
theorem ykt {w:World}{B g M:Nat}{V:Fl.Nm→Value}{l:List Fl}{r:Int}(hd:DiskIn w B g M V l r)(nm:Fl.Nm):(bytesR l r nm).length≤1048576:=by
 unfold bytesR
 by_cases h:r=0
 · simp[h]
 · rcases hf:Fl.find l nm with _|f
   · simp[h]
   · simp only[h,↓reduceIte];exact(hd.ok f (Fl.ycl hf)).2.2.1
theorem ymj {w:World}{B g M:Nat}{V:Fl.Nm→Value}{l:List Fl}{r:Int}(hd:DiskIn w B g M V l r)(nm:Fl.Nm):0≤safeR l r nm∧safeR l r nm≤(bytesR l r nm).length:=by
 unfold bytesR safeR
 by_cases h:r=0
 · simp[h]
 · rcases hf:Fl.find l nm with _|f
   · simp[h]
   · simp only[h,↓reduceIte];exact⟨(hd.ok f (Fl.ycl hf)).1,(hd.ok f (Fl.ycl hf)).2.1⟩
theorem find9 {w:World}{B g M:Nat}{V:Fl.Nm→Value}{l:List Fl}{r:Int}(nm:Fl.Nm)(hd:DiskIn w B g M V l r)(hn:nm.length≤maxLen):
 Calls Tryz.prog 83 #[.pointer (some ⟨g,0,none⟩),Sb nm] w fun e w' =>∃A n c,e=.returned (.tuple #[Fv (.slice A n c) (safeR l r nm),.int .i64 (codeR l r nm)])∧Below w.heap.size w w'∧
  n=(bytesR l r nm).length∧w'.ownsRow B 5 1 (.slice A n c) (bytesR l r nm).length (cel8 (bytesR l r nm))∧findR V l r nm=(.slice A n c,safeR l r nm,codeR l r nm):=by
 have hown:=yha hd nm
 obtain⟨e1,e2⟩:=yth V l r nm
 refine(yuy nm hd hn).mono ?_
 rintro e w' ⟨rfl,hb⟩
 obtain⟨A,c,hv⟩:=yex hown
 refine⟨A,_,c,?_,hb,rfl,?_,?_⟩
 · rw[hv,e1,e2]
 · rw[←hv];exact hown.kept (yae hb none) (by cases (findR V l r nm).1.ownBlock <;> simp)
 · rw[←hv,←e1,←e2]
theorem new9 (w:World)(B:Nat)(hB:B≤w.heap.size):Calls Tryz.prog 34 #[] w fun e w'=>e=.returned (.pointer (some ⟨w.heap.size+1,0,none⟩))∧DiskS w' B (Plus (fun _=>False) w w') (w.heap.size+1) [] (-1)∧Below w.heap.size w w'∧w'.heap.size=w.heap.size+2:=by
 have hmm:=@run_makeMap Tryz.prog
 go_enter Tryz.func34,Tryz.ntmps34
 go_wp2_with fail
 go_ret
 have hm:=World.ownsMap_made (H:=Value) w Tryz.prog 9 heldV
 have e1:(w.alloc (.map #[] 0)).heap.size=w.heap.size+1:=by simp
 have hr:=Row.new (w.alloc (.map #[] 0)) 73 [.map (some w.heap.size),.bool false,.int .i64 0,.bool false]
 rw[e1]at hr
 refine⟨rfl,⟨fun k hk=>?_,w.heap.size,fun _=>.slice none 0 0,⟨⟨⟨false,0,false⟩,hr,.inl ⟨rfl,rfl,rfl⟩⟩,⟨_,hm.kept (yaw _ _ none) (by simp),View.empty _⟩,fun f hf=>(by cases hf),fun f hf=>(by cases hf),List.Pairwise.nil,by simp,fun f hf=>(by cases hf),by omega,hB⟩,fun k hk=>?_⟩,?_,by simp⟩
 · rcases hk with hk|hk
   · exact hk.elim
   · exact⟨by omega,hk.2⟩
 · rcases hk with rfl|rfl|⟨f,hf,_⟩
   · exact .inr ⟨by omega,by simp⟩
   · exact .inr ⟨Nat.le_refl _,by simp;omega⟩
   · cases hf
 · exact(((Below.refl _ _).alloc (Nat.le_refl _) _).alloc (by simp) _)
theorem ysy {w:World}{B g M:Nat}{V:Fl.Nm→Value}{l:List Fl}{r:Int}(nm:Fl.Nm)(hd:DiskIn w B g M V l r)(hn:nm.length≤maxLen):
 Calls Tryz.prog 55 #[.pointer (some ⟨g,0,none⟩),Sb nm] w fun e w'=>e=.returned (.tuple #[Sb (bytesR l r nm),.int .i64 (codeR l r nm)])∧Below w.heap.size w w':=by
 have HF:=yh (find9 nm hd hn)
 clear hd
 generalize safeR l r nm=s at *
 generalize codeR l r nm=k at *
 generalize bytesR l r nm=bs at *
 go_enter Tryz.func55,Tryz.ntmps55
 go_wp2_with fail
 refine HF.out.mono ?_
 rintro _ w1 ⟨A,n,c,rfl,hb,hnl,hown,_⟩
 have hb2:=hb.alloc hb.size (.cells #[.slice A n c,.int .i64 s] 87)
 have hcv:=yqc (P:=Tryz.prog) (hown.alloc (.cells #[.slice A n c,.int .i64 s] 87)) rfl 85 Tryz.underlying85 Tryz.underlying5 9 Tryz.underlying9
 have Hb2:=yh hb2
 clear hb hb2 hown HF hnl
 go_wp2_with fail
 go_ret2
 exact⟨rfl,Hb2.out⟩
end
section
open Go.RowKit Go.Maps Go.Sort
theorem parts9 {i:Option TypeInfo}{z:Option Value}{a b:Nat}(h:i.map (fun i=>(i.zero,i.size,i.bytes))=some (z,a,b)) :∃i0,i=some i0∧i0.zero=z∧i0.size=a∧i0.bytes=b:=by
 obtain⟨i0,hi,h2⟩:=Option.map_eq_some_iff.1 h
 simp only[Prod.mk.injEq]at h2
 exact⟨i0,hi,h2.1,h2.2.1,h2.2.2⟩
end
section
open Go.RowKit Go.Maps
theorem ydp {w:World}{B n:Nat}{e:TypeId}{v:Value}{xs:List Value}(h:w.ownsRow B e 1 v n xs){M n2:Nat}{D:DataW Value}(hm:w.ownsMap Tryz.prog 9 heldV M n2 D):some M≠v.ownBlock:=by
 intro e1
 rcases h.2 with⟨e2,_⟩|⟨q,cap,cur,hv,hb,hh,_⟩
 · rw[e2]at e1;cases e1
 · rw[hv]at e1
   obtain⟨es,clock,hb2,_⟩:=hm
   have:M=q:=by injection e1
   subst this
   rw[hh]at hb2
   cases hb2
theorem DiskIn.stored {w w2 w3:World}{B g M:Nat}{V:Fl.Nm→Value}{l:List Fl}{r:Int}(hd:DiskIn w B g M V l r){f:Fl}{v:Value}{T:Nat→Prop}{n:Nat}{D:DataW Value}
 (h12:Chg T w w2) (hT :∀k,T k→k≠g∧k≠M∧∀x∈l,x.name≠f.name→(V x.name).ownBlock≠some k)
 (hown:w2.ownsRow B 5 1 v f.b.length (cel8 f.b)) (hvb :∀k,v.ownBlock=some k→∀x∈l,x.name≠f.name→(V x.name).ownBlock≠some k)
 (hV:View D l V) (hmap:w3.ownsMap Tryz.prog 9 heldV M n (D.put (KS f.name) (.held (Fv v f.safe)))) (h23:w2.grownBy w3 (some M)) (hlen:(Fl.put l f).length≤8) (hok:FileOk f):
 DiskIn w3 B g M (fun x=>if x=f.name then v else V x) (Fl.put l f) r:=by
 have hgM:=hd.apart_gM
 obtain⟨D0,hD0,hV0⟩:=hd.map
 have hm2:=h12.map hD0 (fun h=>(hT M h).2.1 rfl)
 obtain⟨s,hs,hk⟩:=hd.row
 refine⟨⟨s,(h12.row hs (fun h=>(hT g h).1 rfl)).kept h23 (by simpa using hgM),hk⟩,MapAt.mk hmap (hV.put hd.sorted f v) (hd.sorted.put f),fun x hx=>?_,fun x hx y hy hxy k hk1 hk2=>?_,hd.sorted.put f,hlen,fun x hx=>?_,hd.lo⟩
 · rcases Fl.yb4 hd.sorted hx with rfl|⟨hx,hne⟩
   · simp only[↓reduceIte]
     exact hown.kept h23 (.inr (fun e=>ydp hown hm2 e.symm))
   · simp only[if_neg hne]
     have h1:=h12.ownsRow (hd.files x hx) (fun k e h=>(hT k h).2.2 x hx hne e)
     exact h1.kept h23 (.inr (fun e=>ydp h1 hm2 e.symm))
 · rcases Fl.yb4 hd.sorted hx with ex|⟨hx',hnx⟩
   · rcases Fl.yb4 hd.sorted hy with ey|⟨hy',hny⟩
     · exact hxy (by rw[ex,ey])
     · rw[if_pos (by rw[ex])]at hk1
       rw[if_neg hny]at hk2
       exact hvb k hk1 y hy' hny hk2
   · rcases Fl.yb4 hd.sorted hy with ey|⟨hy',hny⟩
     · rw[if_neg hnx]at hk1
       rw[if_pos (by rw[ey])]at hk2
       exact hvb k hk2 x hx' hnx hk1
     · rw[if_neg hnx]at hk1
       rw[if_neg hny]at hk2
       exact hd.apart x hx' y hy' hxy k hk1 hk2
 · rcases Fl.yqo hx with rfl|hx
   · exact hok
   · exact hd.ok x hx
theorem DiskOwn.put {g M:Nat}{l:List Fl}{V:Fl.Nm→Value}{f:Fl}{v:Value}(hs:Fl.Sorted l){k:Nat}(h:DiskOwn g M (Fl.put l f) (fun x=>if x=f.name then v else V x) k):DiskOwn g M l V k∨v.ownBlock=some k:=by
 rcases h with h|h|⟨x,hx,hk⟩
 · exact .inl (.inl h)
 · exact .inl (.inr (.inl h))
 · rcases Fl.yb4 hs hx with rfl|⟨hx,hne⟩
   · simp only[↓reduceIte]at hk;exact .inr hk
   · simp only[if_neg hne]at hk
     exact .inl (.inr (.inr ⟨x,hx,hk⟩))
theorem DiskIn.dropped {w w2:World}{B g M:Nat}{V:Fl.Nm→Value}{l:List Fl}{r:Int}(hd:DiskIn w B g M V l r){nm:Fl.Nm}{n:Nat}{D:DataW Value}
 (hV:View D l V) (hmap:w2.ownsMap Tryz.prog 9 heldV M n (D.del (KS nm))) (h12:w.grownBy w2 (some M)):DiskIn w2 B g M V (Fl.drop l nm) r:=by
 have hgM:=hd.apart_gM
 obtain⟨D0,hD0,hV0⟩:=hd.map
 obtain⟨s,hs,hk⟩:=hd.row
 refine⟨⟨s,Row.kept hs h12 (by simpa using hgM),hk⟩,MapAt.mk hmap (hV.del nm) (hd.sorted.drop nm),fun x hx=>?_,fun x hx y hy hxy=>?_,hd.sorted.drop nm,Nat.le_trans (Fl.length_drop _ _) hd.len,fun x hx=>?_,hd.lo⟩
 · have h1:=hd.files x (Fl.ydr.1 hx).1
   exact h1.kept h12 (.inr (fun e=>ydp h1 hD0 e.symm))
 · exact hd.apart x (Fl.ydr.1 hx).1 y (Fl.ydr.1 hy).1 hxy
 · exact hd.ok x (Fl.ydr.1 hx).1
theorem DiskOwn.dropped {g M:Nat}{l:List Fl}{V:Fl.Nm→Value}{nm:Fl.Nm}{k:Nat}(h:DiskOwn g M (Fl.drop l nm) V k):DiskOwn g M l V k:=by
 rcases h with h|h|⟨x,hx,hk⟩
 · exact .inl h
 · exact .inr (.inl h)
 · exact .inr (.inr ⟨x,(Fl.ydr.1 hx).1,hk⟩)
def oneR (r:Int):Int:=if 0<r then r-1 else r
theorem DkOk.one {s:Dk}{r:Int}(h:DkOk s r)(h0:r≠0):DkOk s.one (oneR r):=by
 unfold Dk.one oneR
 rcases h with⟨h1,h2,rfl⟩|⟨h1,h2,h3,h4,h5⟩
 · rw[h1]
   simp only[Bool.false_eq_true,↓reduceIte]
   rw[if_neg (by omega)]
   exact .inl ⟨h1,h2,rfl⟩
 · rw[if_pos h1,if_pos (by omega),h2]
   exact .inr ⟨rfl,rfl,by omega,by omega,rfl⟩
theorem DiskIn.turn {w w2:World}{B g M:Nat}{V:Fl.Nm→Value}{l:List Fl}{r r2:Int}(hd:DiskIn w B g M V l r){s:Dk}(hs:DkAt w2 g (.map (some M)) s)(hk:DkOk s r2)(hg:w.grownBy w2 (some g)):DiskIn w2 B g M V l r2:=by
 have hgM:=hd.apart_gM
 obtain⟨D,hD,hV⟩:=hd.map
 exact⟨⟨s,hs,hk⟩,⟨D,hD.kept hg (by simpa using hgM.symm),hV⟩,fun x hx=>(hd.files x hx).kept hg (.inr (fun e=>(hd.apart_f hx e).1 rfl)),hd.apart,hd.sorted,hd.len,hd.ok,hd.lo⟩
theorem done9 {w:World}{B g M:Nat}{V:Fl.Nm→Value}{l:List Fl}{r:Int}(hd:DiskIn w B g M V l r)(h0:r≠0):
 Calls Tryz.prog 84 #[.pointer (some ⟨g,0,none⟩)] w fun e w'=>e=.returned (.int .i64 0)∧DiskIn w' B g M V l (oneR r)∧w.grownBy w' (some g):=by
 obtain⟨s,hs,hk⟩:=hd.row
 refine(yu2 hs (fun ha=>?_)).mono ?_
 · rcases hk with⟨h1,_,_⟩|⟨h1,h2,h3,h4,h5⟩
   · rw[h1]at ha;cases ha
   · rw[h2];omega
 · rintro e w' ⟨rfl,h1,h2⟩
   exact⟨rfl,hd.turn h1 (hk.one h0) h2,h2⟩
end
section
open Go.RowKit Go.Maps
theorem yf2 (v:Value):heldV v=some (.held v,[]):=rfl
def DiskTo (w w':World)(B g M:Nat)(V:Fl.Nm→Value)(l l':List Fl)(r':Int):Prop:=
 ∃V',DiskIn w' B g M V' l' r'∧Chg (DiskOwn g M l V) w w'∧∀k,DiskOwn g M l' V' k→DiskOwn g M l V k∨w.heap.size≤k
theorem DiskTo.same {w w':World}{B g M:Nat}{V:Fl.Nm→Value}{l:List Fl}{r:Int}(hd:DiskIn w B g M V l r)(hb:Below w.heap.size w w'):DiskTo w w' B g M V l l r:=
 ⟨V,hd.kept (Chg.ya6 (S:=fun _=>False) hb) (fun _ _ h=>h),Chg.ya6 hb,fun _ h=>.inl h⟩
theorem DiskIn.below {w w':World}{B g M:Nat}{V:Fl.Nm→Value}{l:List Fl}{r:Int}(hd:DiskIn w B g M V l r)(hb:Below w.heap.size w w'):DiskIn w' B g M V l r:=
 hd.kept (Chg.ya6 (S:=fun _=>False) hb) (fun _ _ h=>h)
theorem DiskTo.stored {w w3 w4 w5:World}{B g M:Nat}{V:Fl.Nm→Value}{l:List Fl}{r r5:Int}(hd:DiskIn w B g M V l r){f:Fl}{v:Value}{T:Nat→Prop}
 (h12:Chg T w w3) (hT2 :∀k,T k→DiskOwn g M l V k) (hv2 :∀k,v.ownBlock=some k→DiskOwn g M l V k∨w.heap.size≤k) (h23:w3.grownBy w4 (some M))
 (h5:DiskIn w5 B g M (fun x=>if x=f.name then v else V x) (Fl.put l f) r5) (h45:w4.grownBy w5 (some g)):DiskTo w w5 B g M V l (Fl.put l f) r5:=by
 refine⟨_,h5,?_,fun k hk=>?_⟩
 · refine((h12.mono hT2).trans (Chg.yat (S:=DiskOwn g M l V) h23 (fun k e=>by cases e;exact .inl (.inr (.inl rfl)))) (fun k h=>.inl h)).trans (Chg.yat (S:=DiskOwn g M l V) h45 (fun k e=>by cases e;exact .inl (.inl rfl))) (fun k h=>.inl h)
 · rcases DiskOwn.put hd.sorted hk with h|h
   · exact .inl h
   · exact hv2 k h
theorem DiskIn.own_apart {w:World}{B g M:Nat}{V:Fl.Nm→Value}{l:List Fl}{r:Int}(hd:DiskIn w B g M V l r){nm:Fl.Nm}{f:Fl}(hf:Fl.find l nm=some f) :∀k,(V nm).ownBlock=some k→(k≠g∧k≠M∧∀x∈l,x.name≠nm→(V x.name).ownBlock≠some k)∧DiskOwn g M l V k:=by
 intro k hk
 have hn:=Fl.yd4 hf
 have hm:=Fl.ycl hf
 rw[←hn]at hk
 exact⟨⟨(hd.apart_f hm hk).1,(hd.apart_f hm hk).2,fun x hx hne=>hd.apart f hm x hx (fun e=>hne (e.symm.trans hn)) k hk⟩,.inr (.inr ⟨f,hm,hk⟩)⟩
def syncR (l:List Fl)(r:Int)(nm:Fl.Nm):List Fl×Int×Int:=
 if r=0 then (l,r,8) else match Fl.find l nm with|none=>(l,r,34)|some f=>(Fl.put l ⟨nm,f.b,f.b.length⟩,oneR r,0)
theorem ydu (l:List Fl)(r:Int)(nm:Fl.Nm):(r=0∧codeR l r nm=8)∨(r≠0∧Fl.find l nm=none∧codeR l r nm=34)∨(r≠0∧∃f,Fl.find l nm=some f∧codeR l r nm=0∧bytesR l r nm=f.b∧safeR l r nm=f.safe∧∀V,findR V l r nm=(V nm,f.safe,0)):=by
 unfold codeR bytesR safeR findR
 by_cases h:r=0
 · exact .inl ⟨h,by simp[h]⟩
 · rcases hf:Fl.find l nm with _|f
   · exact .inr (.inl ⟨h,rfl,by simp[h]⟩)
   · exact .inr (.inr ⟨h,f,rfl,by simp[h],by simp[h],by simp[h],fun V=>by simp[h]⟩)
theorem ysg {w:World}{B g M:Nat}{V:Fl.Nm→Value}{l:List Fl}{r:Int}(nm:Fl.Nm)(hd:DiskIn w B g M V l r)(hn:nm.length≤maxLen):
 Calls Tryz.prog 58 #[.pointer (some ⟨g,0,none⟩),Sb nm] w fun e w'=>e=.returned (.int .i64 (syncR l r nm).2.2)∧DiskTo w w' B g M V l (syncR l r nm).1 (syncR l r nm).2.1:=by
 have HF:=yh (find9 nm hd hn)
 have HD:=yh hd
 have HN:=yh hn
 obtain⟨R,hR⟩ :∃R,R=syncR l r nm:=⟨_,rfl⟩
 rw[←hR]
 unfold syncR at hR
 have hbl:=ykt hd nm
 clear hd hn
 rcases ydu l r nm with⟨h0,hc⟩|⟨h0,hf,hc⟩|⟨h0,f,hf,hc,hbs,hsf,hfr⟩
 · rw[if_pos h0]at hR
   rw[hc]at HF
   have HR:=yh hR
   generalize safeR l r nm=s at *
   clear h0 hR hc hbl
   go_enter Tryz.func58,Tryz.ntmps58
   go_wp2_with fail
   refine HF.out.mono ?_
   rintro _ w1 ⟨A,n,c,rfl,hb,hx1,hx2,hx3⟩
   clear hx1 hx2 hx3
   have Hb:=yh (hb.alloc hb.size (.cells #[.slice A n c,.int .i64 s] 87))
   clear hb
   go_wp2_with fail
   go_ret
   exact⟨by rw[HR.out];rfl,by rw[HR.out];exact .same HD.out Hb.out⟩
 · rw[if_neg h0,hf]at hR
   rw[hc]at HF
   have HR:=yh hR
   generalize safeR l r nm=s at *
   clear h0 hR hc hbl
   go_enter Tryz.func58,Tryz.ntmps58
   go_wp2_with fail
   refine HF.out.mono ?_
   rintro _ w1 ⟨A,n,c,rfl,hb,hx1,hx2,hx3⟩
   clear hx1 hx2 hx3
   have Hb:=yh (hb.alloc hb.size (.cells #[.slice A n c,.int .i64 s] 87))
   clear hb
   go_wp2_with fail
   go_ret
   exact⟨by rw[HR.out];rfl,by rw[HR.out];exact .same HD.out Hb.out⟩
 · rw[if_neg h0,hf]at hR
   rw[hc]at HF
   have HR:=yh hR
   have H0:=yh h0
   have Hf:=yh hf
   have Hbs:=yh hbs
   have Hsf:=yh hsf
   have Hfr:=yh hfr
   generalize safeR l r nm=s at *
   clear h0 hR hc hf hbs hsf hfr
   go_enter Tryz.func58,Tryz.ntmps58
   go_wp2_with fail
   refine HF.out.mono ?_
   rintro _ w1 ⟨A,n,c,rfl,hb,hnl,hown,hfr⟩
   obtain⟨sk,hsk,hkk⟩:=HD.out.row
   obtain⟨D,hD,hV⟩:=HD.out.map
   have hb2:=hb.alloc hb.size (.cells #[.slice A n c,.int .i64 (n:Int)] 87)
   have hrow2:=Row.new w1 87 [.slice A n c,.int .i64 (n:Int)]
   have c0:(w1.alloc (.cells #[.slice A n c,.int .i64 (n:Int)] 87)).cell? ⟨g,0,none⟩=some (.map (some M)):=(DkAt.box (hsk.below hb2)).1
   have hDk:(w1.alloc (.cells #[.slice A n c,.int .i64 (n:Int)] 87)).ownsMap Tryz.prog 9 heldV M l.length D:=hD.kept (yae hb2 none) (by simp)
   have d0:=hrow2.cell 0 (by simp)
   have d1:=hrow2.cell 1 (by simp)
   simp only[List.getElem_cons_zero,List.getElem_cons_succ]at d0 d1
   have Hb2:=yh hb2
   have HDk:=yh hDk
   have HV:=yh hV
   have Hown:=yh hown
   have Hnl:=yh hnl
   have Hfr2:=yh hfr
   clear hb hsk hkk hD hV hb2 hrow2 hDk hown hnl hfr
   go_wp2_with fail
   refine ybj 6 (by kernel_rfl) (by kernel_rfl) ?_
   intro w3 hw3
   have hb3:Below w.heap.size w w3:=by rw[hw3];exact Hb2.out.drew
   have hm3:w3.ownsMap Tryz.prog 9 heldV M l.length D:=by rw[hw3];exact HDk.out.kept (ybh _ none) (by simp)
   have ho3:w3.ownsRow B 5 1 (.slice A n c) (bytesR l r nm).length (cel8 (bytesR l r nm)):=by rw[hw3];exact(Hown.out.alloc _).kept (ybh _ none) (by cases A <;> simp[Value.ownBlock])
   have c0:=(yax hw3 g 0).trans c0
   have d0:=(yax hw3 w1.heap.size 0).trans d0
   have d1:=(yax hw3 w1.heap.size 1).trans d1
   have Hb3:=yh hb3
   have Hm3:=yh hm3
   have Ho3:=yh ho3
   clear hw3 hb3 hm3 ho3
   have hfv:V nm=.slice A n c:=by have:=Hfr.out V;rw[Hfr2.out]at this;injection this with h1;exact h1.symm
   have hA:=HD.out.own_apart Hf.out
   rw[hfv]at hA
   have HA:=yh hA
   have hnf:(n:Int)=(f.b.length:Int):=by rw[Hnl.out,Hbs.out]
   have hll:l.length<maxLen:=by have:=HD.out.len;unfold maxLen;omega
   have hstore :∀w4:World,w4.ownsMap Tryz.prog 9 heldV M (l.length+1) (D.put (KS nm) (.held (Fv (.slice A n c) (n:Int))))→w3.grownBy w4 (some M)→DiskIn w4 B g M (fun x=>if x=nm then .slice A n c else V x) (Fl.put l ⟨nm,f.b,f.b.length⟩) r:=by
    intro w4 hm4 hg4
    have hok:=HD.out.ok f (Fl.ycl Hf.out)
    have ho3:=Ho3.out
    rw[Hbs.out]at ho3
    rw[hnf]at hm4
    refine HD.out.stored (f:=⟨nm,f.b,f.b.length⟩) (Chg.ya6 (S:=fun _=>False) Hb3.out) (fun k h=>h.elim) ho3 (fun k h=>(HA.out k h).1.2.2) HV.out hm4 hg4 ?_ ⟨by simp,by simp,hok.2.2.1,by rw[←Fl.yd4 Hf.out];exact hok.2.2.2⟩
    have:=Fl.yd9 l HD.out.sorted ⟨nm,f.b,f.b.length⟩
    rw[show (Fl.find l nm).isSome=true by rw[Hf.out];rfl]at this
    rw[this]
    exact HD.out.len
   clear hfv hA hnf
   simp only[List.take_succ_cons,List.take_zero,List.drop_succ_cons,List.drop_zero]
   repeat still_step
   refine wpStill_nil ?_
   go_wp2_with (first
    | (at_mapUpdate; refine wpList_mapUpdate_own _ rfl _ _ _ 71 rfl 9 87 lawS Tryz.underlying71 _ M l.length _ rfl Hm3.out hll _ _ _ rfl rfl (keyS nm HN.out) _ [] (yf2 _) ?_; intro w4 hown4 hg4
       have hd4:=hstore w4 hown4 hg4
       have Hg4:=yh hg4
       have Hd4:=yh hd4
       clear hown4 hg4 hd4)
    | fail)
   refine(done9 Hd4.out H0.out).mono ?_
   rintro _ w5 ⟨rfl,hd5,hg5⟩
   have Hd5:=yh hd5
   have Hg5:=yh hg5
   clear hd5 hg5
   go_wp2_with fail
   go_ret
   refine⟨by rw[HR.out];rfl,by rw[HR.out];exact .stored HD.out (Chg.ya6 (S:=fun _=>False) Hb3.out) (fun k h=>h.elim) (fun k h=>.inl (HA.out k h).2) Hg4.out Hd5.out Hg5.out⟩
end
section
open Go.RowKit Go.Maps
def removeR (l:List Fl)(r:Int)(nm:Fl.Nm):List Fl×Int×Int:=
 if r=0 then (l,r,8) else match Fl.find l nm with|none=>(l,r,34)|some f=>(Fl.drop l nm,oneR r,0)
theorem DiskTo.dropped {w w3 w4 w5:World}{B g M:Nat}{V:Fl.Nm→Value}{l:List Fl}{r5:Int}{nm:Fl.Nm}(h12:Below w.heap.size w w3)(h23:w3.grownBy w4 (some M))
 (h5:DiskIn w5 B g M V (Fl.drop l nm) r5) (h45:w4.grownBy w5 (some g)):DiskTo w w5 B g M V l (Fl.drop l nm) r5:=
 ⟨V,h5,((Chg.ya6 h12).trans (Chg.yat (S:=DiskOwn g M l V) h23 (fun k e=>by cases e;exact .inl (.inr (.inl rfl)))) (fun k h=>.inl h)).trans (Chg.yat (S:=DiskOwn g M l V) h45 (fun k e=>by cases e;exact .inl (.inl rfl))) (fun k h=>.inl h),fun k hk=>.inl hk.dropped⟩
theorem ynt {w:World}{B g M:Nat}{V:Fl.Nm→Value}{l:List Fl}{r:Int}(nm:Fl.Nm)(hd:DiskIn w B g M V l r)(hn:nm.length≤maxLen):
 Calls Tryz.prog 54 #[.pointer (some ⟨g,0,none⟩),Sb nm] w fun e w'=>e=.returned (.int .i64 (removeR l r nm).2.2)∧DiskTo w w' B g M V l (removeR l r nm).1 (removeR l r nm).2.1:=by
 have HF:=yh (find9 nm hd hn)
 have HD:=yh hd
 have HN:=yh hn
 obtain⟨R,hR⟩ :∃R,R=removeR l r nm:=⟨_,rfl⟩
 rw[←hR]
 unfold removeR at hR
 clear hd hn
 rcases ydu l r nm with⟨h0,hc⟩|⟨h0,hf,hc⟩|⟨h0,f,hf,hc,hbs,hsf,hfr⟩
 · rw[if_pos h0]at hR
   rw[hc]at HF
   have HR:=yh hR
   generalize safeR l r nm=s at *
   clear h0 hR hc
   go_enter Tryz.func54,Tryz.ntmps54
   go_wp2_with fail
   refine HF.out.mono ?_
   rintro _ w1 ⟨A,n,c,rfl,hb,hx1,hx2,hx3⟩
   clear hx1 hx2 hx3
   have Hb:=yh (hb.alloc hb.size (.cells #[.slice A n c,.int .i64 s] 87))
   clear hb
   go_wp2_with fail
   go_ret
   exact⟨by rw[HR.out];rfl,by rw[HR.out];exact .same HD.out Hb.out⟩
 · rw[if_neg h0,hf]at hR
   rw[hc]at HF
   have HR:=yh hR
   generalize safeR l r nm=s at *
   clear h0 hR hc hf
   go_enter Tryz.func54,Tryz.ntmps54
   go_wp2_with fail
   refine HF.out.mono ?_
   rintro _ w1 ⟨A,n,c,rfl,hb,hx1,hx2,hx3⟩
   clear hx1 hx2 hx3
   have Hb:=yh (hb.alloc hb.size (.cells #[.slice A n c,.int .i64 s] 87))
   clear hb
   go_wp2_with fail
   go_ret
   exact⟨by rw[HR.out];rfl,by rw[HR.out];exact .same HD.out Hb.out⟩
 · rw[if_neg h0,hf]at hR
   rw[hc]at HF
   have HR:=yh hR
   have H0:=yh h0
   generalize safeR l r nm=s at *
   clear h0 hR hc hf hbs hsf hfr
   go_enter Tryz.func54,Tryz.ntmps54
   go_wp2_with fail
   refine HF.out.mono ?_
   rintro _ w1 ⟨A,n,c,rfl,hb,hx1,hx2,hx3⟩
   clear hx1 hx2 hx3
   obtain⟨sk,hsk,hkk⟩:=HD.out.row
   obtain⟨D,hD,hV⟩:=HD.out.map
   have hb2:=hb.alloc hb.size (.cells #[.slice A n c,.int .i64 s] 87)
   have c0:(w1.alloc (.cells #[.slice A n c,.int .i64 s] 87)).cell? ⟨g,0,none⟩=some (.map (some M)):=(DkAt.box (hsk.below hb2)).1
   have hDk:(w1.alloc (.cells #[.slice A n c,.int .i64 s] 87)).ownsMap Tryz.prog 9 heldV M l.length D:=hD.kept (yae hb2 none) (by simp)
   have hd2:=HD.out.below hb2
   have Hb2:=yh hb2
   have HDk:=yh hDk
   have Hd2:=yh hd2
   have HV:=yh hV
   clear hb hsk hkk hD hV hb2 hDk hd2
   go_wp2_with (first
    | (at_delete; refine wpList_delete_own _ rfl _ _ 71 9 rfl 87 lawS Tryz.underlying71 _ M l.length D rfl HDk.out _ _ rfl (keyS nm HN.out) ?_
       intro w4 hown4 hturn
       have Hg4:=yh hturn.grown
       have Hd4:=yh (Hd2.out.dropped HV.out hown4 hturn.grown)
       clear hown4 hturn
       go_frame)
    | fail)
   refine(done9 Hd4.out H0.out).mono ?_
   rintro _ w5 ⟨rfl,hd5,hg5⟩
   have Hd5:=yh hd5
   have Hg5:=yh hg5
   clear hd5 hg5
   go_wp2_with fail
   go_ret
   exact⟨by rw[HR.out];rfl,by rw[HR.out];exact .dropped Hb2.out Hg4.out Hd5.out Hg5.out⟩
end
section
open Go.RowKit Go.Maps
def renameR (l:List Fl)(r:Int)(a b:Fl.Nm):List Fl×Int×Int:=
 if r=0 then (l,r,8) else match Fl.find l a with|none=>(l,r,34)|some f=>if Disk.word b=true then (Fl.put (Fl.drop l a) ⟨b,f.b,f.safe⟩,oneR r,0) else (l,r,2)
theorem DiskTo.renamed {w w4 w5 w6 w7:World}{B g M:Nat}{V:Fl.Nm→Value}{l:List Fl}{r r5:Int}(hd:DiskIn w B g M V l r){a:Fl.Nm}{f:Fl}{v:Value}
 (h12:Chg (DiskOwn g M l V) w w4) (h45:Below w4.heap.size w4 w5) (hv2 :∀k,v.ownBlock=some k→DiskOwn g M l V k) (h56:w5.grownBy w6 (some M))
 (h7:DiskIn w7 B g M (fun x=>if x=f.name then v else V x) (Fl.put (Fl.drop l a) f) r5) (h67:w6.grownBy w7 (some g)):DiskTo w w7 B g M V l (Fl.put (Fl.drop l a) f) r5:=by
 refine⟨_,h7,?_,fun k hk=>?_⟩
 · refine((h12.trans (Chg.ya6 (S:=DiskOwn g M l V) h45) (fun k h=>.inl h)).trans (Chg.yat (S:=DiskOwn g M l V) h56 (fun k e=>by cases e;exact .inl (.inr (.inl rfl)))) (fun k h=>.inl h)).trans (Chg.yat (S:=DiskOwn g M l V) h67 (fun k e=>by cases e;exact .inl (.inl rfl))) (fun k h=>.inl h)
 · rcases DiskOwn.put (hd.sorted.drop a) hk with h|h
   · exact .inl h.dropped
   · exact .inl (hv2 k h)
theorem yin {b:Fl.Nm}(h:Disk.word b=true):b.length≤16:=by
 unfold Disk.word at h
 simp at h
 omega
theorem yns {w:World}{B g M:Nat}{V:Fl.Nm→Value}{l:List Fl}{r:Int}(nm to:Fl.Nm)(hd:DiskIn w B g M V l r)(hn:nm.length≤maxLen)(ht:to.length≤140737488351232):
 Calls Tryz.prog 124 #[.pointer (some ⟨g,0,none⟩),Sb nm,Sb to] w fun e w'=>e=.returned (.int .i64 (renameR l r nm to).2.2)∧DiskTo w w' B g M V l (renameR l r nm to).1 (renameR l r nm to).2.1:=by
 have HF:=yh (find9 nm hd hn)
 have HD:=yh hd
 have HN:=yh hn
 have hto:to.length≤maxLen:=by unfold maxLen;omega
 have HT:=yh hto
 obtain⟨R,hR⟩ :∃R,R=renameR l r nm to:=⟨_,rfl⟩
 rw[←hR]
 unfold renameR at hR
 have HI:Hid (∀w,Calls Tryz.prog 89 #[Sb to] w fun e w'=>e=.returned (.bool (Disk.word to))∧w=w'):=yh fun w=>yh9 ⟨to.toArray⟩ w (show to.toArray.size≤_ by simpa using ht)
 clear hd hn hto ht
 rcases ydu l r nm with⟨h0,hc⟩|⟨h0,hf,hc⟩|⟨h0,f,hf,hc,hbs,hsf,hfr⟩
 · rw[if_pos h0]at hR
   rw[hc]at HF
   have HR:=yh hR
   generalize safeR l r nm=s at *
   clear h0 hR hc
   go_enter Tryz.func124,Tryz.ntmps124
   go_wp2_with fail
   refine HF.out.mono ?_
   rintro _ w1 ⟨A,n,c,rfl,hb,hx1,hx2,hx3⟩
   clear hx1 hx2 hx3
   have Hb:=yh (hb.alloc hb.size (.cells #[.slice A n c,.int .i64 s] 87))
   clear hb
   go_wp2_with fail
   go_ret
   exact⟨by rw[HR.out];rfl,by rw[HR.out];exact .same HD.out Hb.out⟩
 · rw[if_neg h0,hf]at hR
   rw[hc]at HF
   have HR:=yh hR
   generalize safeR l r nm=s at *
   clear h0 hR hc hf
   go_enter Tryz.func124,Tryz.ntmps124
   go_wp2_with fail
   refine HF.out.mono ?_
   rintro _ w1 ⟨A,n,c,rfl,hb,hx1,hx2,hx3⟩
   clear hx1 hx2 hx3
   have Hb:=yh (hb.alloc hb.size (.cells #[.slice A n c,.int .i64 s] 87))
   clear hb
   go_wp2_with fail
   go_ret
   exact⟨by rw[HR.out];rfl,by rw[HR.out];exact .same HD.out Hb.out⟩
 · rw[if_neg h0,hf]at hR
   simp only at hR
   rw[hc]at HF
   by_cases hw:Disk.word to=true
   · rw[if_pos hw]at hR
     rw[hw]at HI
     have HR:=yh hR
     have H0:=yh h0
     have Hf:=yh hf
     have Hbs:=yh hbs
     have Hsf:=yh hsf
     have Hfr:=yh (hfr V)
     have Hw:=yh hw
     generalize safeR l r nm=s at *
     clear h0 hR hc hf hbs hsf hfr hw
     go_enter Tryz.func124,Tryz.ntmps124
     go_wp2_with fail
     refine HF.out.mono ?_
     rintro _ w1 ⟨A,n,c,rfl,hb,hnl,hown,hfr⟩
     obtain⟨sk,hsk,hkk⟩:=HD.out.row
     obtain⟨D,hD,hV⟩:=HD.out.map
     have hfv:V nm=.slice A n c:=by have:=Hfr.out;rw[hfr]at this;injection this with h1;exact h1.symm
     have hA:=HD.out.own_apart Hf.out
     rw[hfv]at hA
     have hb2:=hb.alloc hb.size (.cells #[.slice A n c,.int .i64 s] 87)
     have hrow2:=Row.new w1 87 [.slice A n c,.int .i64 s]
     have c0:(w1.alloc (.cells #[.slice A n c,.int .i64 s] 87)).cell? ⟨g,0,none⟩=some (.map (some M)):=(DkAt.box (hsk.below hb2)).1
     have hDk:(w1.alloc (.cells #[.slice A n c,.int .i64 s] 87)).ownsMap Tryz.prog 9 heldV M l.length D:=hD.kept (yae hb2 none) (by simp)
     have hd2:=HD.out.below hb2
     have ho2:=hown.alloc (.cells #[.slice A n c,.int .i64 s] 87)
     rw[Hbs.out]at ho2
     have hMq:M≠w1.heap.size:=by have:=hD.lt;have:=hb.size;omega
     have Hb2:=yh hb2
     have HDk:=yh hDk
     have Hd2:=yh hd2
     have HV:=yh hV
     have HA:=yh hA
     have Ho2:=yh ho2
     have Hrow2:=yh hrow2
     have HMq:=yh hMq
     clear hb hsk hkk hD hV hb2 hDk hd2 hfv hA hnl hown hfr ho2 hrow2 hMq
     go_wp2_with fail
     refine(HI.out _).mono ?_
     rintro _ w2 ⟨rfl,rfl⟩
     go_wp2_with (first
      | (at_delete; refine wpList_delete_own _ rfl _ _ 71 9 rfl 87 lawS Tryz.underlying71 _ M l.length D rfl HDk.out _ _ rfl (keyS nm HN.out) ?_
         intro w4 hown4 hturn
         have hg4:=hturn.grown
         have Hd4:=yh (Hd2.out.dropped HV.out hown4 hg4)
         have Hown4:=yh hown4
         have hrow4:=Hrow2.out.kept hg4 (by simpa using fun e=>HMq.out e.symm)
         have c0:w4.cell? ⟨g,0,none⟩=some (.map (some M)):=by obtain⟨sk,hsk,_⟩:=Hd4.out.row;exact(DkAt.box hsk).1
         have d0:=hrow4.cell 0 (by simp)
         have d1:=hrow4.cell 1 (by simp)
         simp only[List.getElem_cons_zero,List.getElem_cons_succ]at d0 d1
         have Ho4:=yh (Ho2.out.kept hg4 (.inr (fun e=>ydp Ho2.out HDk.out e.symm)))
         have Hg4:=yh hg4
         clear hown4 hturn hg4 hrow4
         go_frame)
      | fail)
     refine ybj 6 (by kernel_rfl) (by kernel_rfl) ?_
     intro w5 hw5
     have hb5:Below w4.heap.size w4 w5:=by rw[hw5];exact(Below.refl _ _).drew
     have hm5:w5.ownsMap Tryz.prog 9 heldV M l.length (D.del (KS nm)):=by rw[hw5];exact Hown4.out.kept (ybh _ none) (by simp)
     have c0:=(yax hw5 g 0).trans c0
     have d0:=(yax hw5 w1.heap.size 0).trans d0
     have d1:=(yax hw5 w1.heap.size 1).trans d1
     have Hb5:=yh hb5
     have Hm5:=yh hm5
     clear hw5 hb5 hm5
     have hll:l.length<maxLen:=by have:=HD.out.len;unfold maxLen;omega
     have hstore :∀w6:World,w6.ownsMap Tryz.prog 9 heldV M (l.length+1) ((D.del (KS nm)).put (KS to) (.held (Fv (.slice A n c) s)))→w5.grownBy w6 (some M)→DiskIn w6 B g M (fun x=>if x=to then .slice A n c else V x) (Fl.put (Fl.drop l nm) ⟨to,f.b,f.safe⟩) r:=by
      intro w6 hm6 hg6
      have hok:=HD.out.ok f (Fl.ycl Hf.out)
      rw[Hsf.out]at hm6
      have ho5:=Ho4.out.kept (yae Hb5.out none) (by cases A <;> simp[Value.ownBlock])
      refine Hd4.out.stored (f:=⟨to,f.b,f.safe⟩) (Chg.ya6 (S:=fun _=>False) Hb5.out) (fun k h=>h.elim) ho5 (fun k h x hx _=>(HA.out k h).1.2.2 x (Fl.ydr.1 hx).1 (Fl.ydr.1 hx).2) (HV.out.del nm) hm6 hg6 ?_ ⟨hok.1,hok.2.1,hok.2.2.1,yin Hw.out⟩
      have h1:=Fl.yd9 _ (HD.out.sorted.drop nm) ⟨to,f.b,f.safe⟩
      have h2:=Fl.ye2 HD.out.sorted (nm:=nm) (by rw[Hf.out];rfl)
      have h3:=HD.out.len
      rw[h1]
      split <;> omega
     simp only[List.take_succ_cons,List.take_zero,List.drop_succ_cons,List.drop_zero]
     repeat still_step
     refine wpStill_nil ?_
     go_wp2_with (first
      | (at_mapUpdate; refine wpList_mapUpdate_own _ rfl _ _ _ 71 rfl 9 87 lawS Tryz.underlying71 _ M l.length _ rfl Hm5.out hll _ _ _ rfl rfl (keyS to HT.out) _ [] (yf2 _) ?_; intro w6 hown6 hg6
         have hd6:=hstore w6 hown6 hg6
         have Hg6:=yh hg6
         have Hd6:=yh hd6
         clear hown6 hg6 hd6)
      | fail)
     refine(done9 Hd6.out H0.out).mono ?_
     rintro _ w7 ⟨rfl,hd7,hg7⟩
     have Hd7:=yh hd7
     have Hg7:=yh hg7
     clear hd7 hg7
     go_wp2_with fail
     go_ret
     refine⟨by rw[HR.out];rfl,by rw[HR.out];exact .renamed HD.out ((Chg.ya6 Hb2.out).trans (Chg.yat (S:=DiskOwn g M l V) Hg4.out (fun k e=>by cases e;exact .inl (.inr (.inl rfl)))) (fun k h=>.inl h)) Hb5.out (fun k h=>(HA.out k h).2) Hg6.out Hd7.out Hg7.out⟩
   · rw[if_neg hw]at hR
     rw[Bool.not_eq_true]at hw
     rw[hw]at HI
     have HR:=yh hR
     generalize safeR l r nm=s at *
     clear h0 hR hc hf hbs hsf hfr hw
     go_enter Tryz.func124,Tryz.ntmps124
     go_wp2_with fail
     refine HF.out.mono ?_
     rintro _ w1 ⟨A,n,c,rfl,hb,hx1,hx2,hx3⟩
     clear hx1 hx2 hx3
     have Hb:=yh (hb.alloc hb.size (.cells #[.slice A n c,.int .i64 s] 87))
     clear hb
     go_wp2_with fail
     refine(HI.out _).mono ?_
     rintro _ w2 ⟨rfl,rfl⟩
     go_wp2_with fail
     go_ret
     exact⟨by rw[HR.out];rfl,by rw[HR.out];exact .same HD.out Hb.out⟩
end
section
open Go.RowKit
theorem yk9 {P:Program}(w:World)(base:Nat)(t tx ty e:TypeId)(i:TypeInfo)(ht:P.underlying t=some (.slice e))(hi:P.info? e=some i)(hz:i.zero=some (.int .u8 0))(hsize:i.size=1)(hby:i.bytes=1)
 (v:Value) (n:Nat) (xs:List Value) (hown:w.ownsRow base e 1 v n xs) (x:Value) (m:Nat) (news:List Value) (hs:Src P 1 tx x m news w)
 (hbytes:(n+m)+(n+m) / 4+192≤281474976710656) (hbase:base≤w.heap.size):
 ∃v' w',(Builtin.append_ #[t,tx] ty #[v,x]).run P w=.ok v' w'∧w'.ownsRow base e 1 v' (n+m) (xs++news)∧w.grownBy w' v.ownBlock∧(v'.ownBlock=v.ownBlock∨v'.ownBlock=some w.heap.size):=by
 have hxl:xs.length=n:=by simpa using hown.1
 have hnl:news.length=m:=by simpa using hs.newsLen
 have hlen:(xs++news).length=(n+m)*1:=by rw[List.length_append,hxl,hnl,Nat.mul_one]
 have hs':Src P i.size tx x m news w:=by rw[hsize];exact hs
 have grown :∀(old:Nat),old<n+m→∀(row:Option Nat),
  (w.drew.alloc (.cells ((xs++news).toArray++Builtin.zeroCells (Value.int .u8 0).cells (grownCap w (n+m) old e-(n+m))) e)).ownsRow base e 1
   (.slice (some ⟨w.heap.size,0,none⟩) (n+m) (grownCap w (n+m) old e)) (n+m) (xs++news)∧
  w.grownBy (w.drew.alloc (.cells ((xs++news).toArray++Builtin.zeroCells (Value.int .u8 0).cells (grownCap w (n+m) old e-(n+m))) e)) row:=by
  intro old ho row
  have hge:=grownCap_ge w (n+m) old e
  have hcm:grownCap w (n+m) old e≤maxLen:=grownCap_le_maxLen w (n+m) old e (by unfold maxLen;omega)
  refine⟨⟨hlen,.inr ⟨w.heap.size,_,_,rfl,hbase,heap_alloc_new w.drew _,hge,hcm,?_,?_⟩⟩,⟨rfl,rfl,rfl,by simp,fun k hk _=>Below.heap_alloc w.drew _ k hk⟩⟩
  · have hz1:(Value.int IntKind.u8 0).cells.size=1:=rfl
    simp only[Array.size_append,List.size_toArray,size_zeroCells,hz1,List.length_append,hxl,hnl]
    omega
  · rw[Array.toList_append,←hlen]
    exact List.take_left
 rcases hown.2 with⟨rfl,rfl⟩|⟨g,cap,cur,rfl,hbg,hg,hnc,hcm,hcs,htake⟩
 · have hx:xs=[]:=List.eq_nil_of_length_eq_zero hxl
   subst hx
   by_cases hm:m=0
   · subst hm
     have hn:news=[]:=List.eq_nil_of_length_eq_zero hnl
     subst hn
     refine⟨.slice none 0 0,w,?_,World.ownsRow_nil w base e 1,⟨rfl,rfl,rfl,Nat.le_refl _,fun _ _ _=>rfl⟩,.inl rfl⟩
     rcases hs'.kind with⟨e',hk⟩|hk <;> simp[Builtin.append_,run_underlying ht,run_underlying hk,sizeOf,typeInfo,hi,hs'.len,hs'.cells]
   · have hr:=run_append_grow_src (P:=P) w t tx ty e i (.int .u8 0) ht hi hz none 0 0 [] (run_firstCells_none w.drew i.size 0 0 0) x m news hs' (by omega) (by omega) (by
      have:=nextslicecap_le_wide (need:=0+m) (old:=0) (by omega)
      rw[hby];omega)
     have hgr:=grown 0 (by omega) (Value.ownBlock (.slice none 0 0))
     exact⟨_,_,hr,hgr.1,hgr.2,.inr rfl⟩
 · have hcs':cur.size=cap:=by simpa using hcs
   by_cases hroom:n+m≤cap
   · have hst:=run_storeCells_at P g n e news 0 cur w hg (by omega) hs.one
     have hrun:(Builtin.append_ #[t,tx] ty #[.slice (some ⟨g,0,none⟩) n cap,x]).run P w =
      .ok (.slice (some ⟨g,0,none⟩) (n+m) cap) (w.setRow g (cur.toList.take n++news++cur.toList.drop (n+m)).toArray):=by
      simp only[Nat.add_zero,hnl]at hst
      rcases hs.kind with⟨e',hk⟩|hk <;> simp[Builtin.append_,run_underlying ht,run_underlying hk,sizeOf,typeInfo,hi,hsize,hs.len,hroom,hs.cells,Addr.add_lit,hst]
     refine⟨_,_,hrun,⟨hlen,.inr ⟨g,cap,_,rfl,hbg,setRow_heap w g cur _ e _ hg,hroom,hcm,?_,?_⟩⟩,⟨rfl,rfl,rfl,by simp,fun k _ hk=>setRow_other w g k _ (fun e=>hk (by simp[Value.ownBlock,e]))⟩,.inl rfl⟩
     · simp only[List.size_toArray,List.length_append,List.length_take,List.length_drop,Array.length_toList,hnl]
       omega
     · have ht':cur.toList.take n=xs:=by simpa using htake
       rw[ht',←hlen]
       exact List.take_left
   · have holds :∀j u,xs[j]? = some u→w.cell? ((⟨g,0,none⟩:Addr).add j)=some u:=hown.cells (g:=g) rfl
     have hr:=run_append_grow_src (P:=P) w t tx ty e i (.int .u8 0) ht hi hz (some ⟨g,0,none⟩) n cap xs
      (run_firstCells_some w.drew i.size n ⟨g,0,none⟩ n cap xs (by rw[hsize];simpa using hxl) (by simpa using holds)) x m news hs' (by omega) (by omega) (by
      have:=nextslicecap_le_wide (need:=n+m) (old:=cap) (by omega)
      rw[hby];omega)
     have hgr:=grown cap (by omega) (Value.ownBlock (.slice (some ⟨g,0,none⟩) n cap))
     exact⟨_,_,hr,hgr.1,hgr.2,.inr rfl⟩
theorem yeb {P:Program}(w:World){ops:Array Oper}{rest:List Oper}{o:Oper}{a:Act}{Q:Exit→Act→World→Prop}(hgd:o.guard=none)(sl x:Operand)(t tx:TypeId)
 (ho:o.op=.call { callee:=.builtin .append,args:=#[sl,x],argTypes:=#[t,tx] }) (base:Nat) (e:TypeId) (i:TypeInfo) (ht:P.underlying t=some (.slice e)) (hi:P.info? e=some i) (hz:i.zero=some (.int .u8 0)) (hsize:i.size=1) (hby:i.bytes=1)
 (v:Value) (n:Nat) (xs:List Value) (hv:a.eval sl=v) (hown:w.ownsRow base e 1 v n xs) (u:Value) (m:Nat) (news:List Value) (hx:a.eval x=u) (hs:Src P 1 tx u m news w)
 (hbytes:(n+m)+(n+m) / 4+192≤281474976710656) (hbase:base≤w.heap.size)
 (h :∀v' w',w'.ownsRow base e 1 v' (n+m) (xs++news)→w.grownBy w' v.ownBlock→(v'.ownBlock=v.ownBlock∨v'.ownBlock=some w.heap.size)→wpList P ops Q rest (a.put o.dst v') w'):wpList P ops Q (o::rest) a w:=by
 refine wpList_plain hgd fun K hK=>?_
 obtain⟨v',w',hr,h2,h3,h4⟩:=yk9 (P:=P) w base t tx o.type e i ht hi hz hsize hby v n xs hown u m news hs hbytes hbase
 unfold Oper.wp execOp
 simp only[ho,resolve,invoke,builtin,Sem.run_bind,Sem.run_pure,Result.andThen_ok,List.map_toArray,List.map_cons,List.map_nil,hv,hx,hr]
 exact hK _ _ (h v' w' h2 h3 h4)
end
section
open Go.RowKit Go.Maps
def appendR (l:List Fl)(r:Int)(nm:Fl.Nm)(s:List UInt8):List Fl×Int×Int:=
 if r=0 then (l,r,8) else if Disk.word nm=false then (l,r,2) else if 1048576<(bytesR l r nm).length+s.length then (l,r,3)
 else if Fl.find l nm=none∧8≤l.length then (l,r,25) else (Fl.put l ⟨nm,bytesR l r nm++s,safeR l r nm⟩,oneR r,0)
theorem r8Info:(Tryz.prog.info? 5).map (fun i=>(i.zero,i.size,i.bytes))=some (some (.int .u8 0),1,1):=by kernel_rfl
theorem DiskTo.grownto {w w4 w5 w6:World}{B g M:Nat}{V:Fl.Nm→Value}{l:List Fl}{r r5:Int}(hd:DiskIn w B g M V l r){f:Fl}{v:Value}
 (h14:Chg (DiskOwn g M l V) w w4) (hv2 :∀k,v.ownBlock=some k→DiskOwn g M l V k∨w.heap.size≤k) (h45:w4.grownBy w5 (some M))
 (h6:DiskIn w6 B g M (fun x=>if x=f.name then v else V x) (Fl.put l f) r5) (h56:w5.grownBy w6 (some g)):DiskTo w w6 B g M V l (Fl.put l f) r5:=by
 refine⟨_,h6,?_,fun k hk=>?_⟩
 · refine(h14.trans (Chg.yat (S:=DiskOwn g M l V) h45 (fun k e=>by cases e;exact .inl (.inr (.inl rfl)))) (fun k h=>.inl h)).trans (Chg.yat (S:=DiskOwn g M l V) h56 (fun k e=>by cases e;exact .inl (.inl rfl))) (fun k h=>.inl h)
 · rcases DiskOwn.put hd.sorted hk with h|h
   · exact .inl h
   · exact hv2 k h
theorem DiskIn.lt_f {w:World}{B g M:Nat}{V:Fl.Nm→Value}{l:List Fl}{r:Int}(h:DiskIn w B g M V l r){f:Fl}(hf:f∈l){k:Nat}(hk:(V f.name).ownBlock=some k):k<w.heap.size:=((h.files f hf).lt k hk).2
theorem yhb {w:World}{B g M:Nat}{V:Fl.Nm→Value}{l:List Fl}{r:Int}(hd:DiskIn w B g M V l r)(nm:Fl.Nm) :∀k,(findR V l r nm).1.ownBlock=some k→(k≠g∧k≠M∧∀x∈l,x.name≠nm→(V x.name).ownBlock≠some k)∧DiskOwn g M l V k:=by
 intro k hk
 unfold findR at hk
 by_cases h0:r=0
 · rw[if_pos h0]at hk;cases hk
 · rw[if_neg h0]at hk
   rcases hf:Fl.find l nm with _|f
   · rw[hf]at hk;cases hk
   · rw[hf]at hk
     exact hd.own_apart hf k hk
theorem yox {w:World}{B g M:Nat}{V:Fl.Nm→Value}{l:List Fl}{r:Int}(nm s:Fl.Nm)(hd:DiskIn w B g M V l r)(hn:nm.length≤140737488351232)(ht:s.length≤140737488351232):
 Calls Tryz.prog 61 #[.pointer (some ⟨g,0,none⟩),Sb nm,Sb s] w fun e w'=>e=.returned (.int .i64 (appendR l r nm s).2.2)∧DiskTo w w' B g M V l (appendR l r nm s).1 (appendR l r nm s).2.1:=by
 obtain⟨i0,hi,hz0,hz1,hz2⟩:=parts9 r8Info
 have Hi:=yh hi;clear hi
 have Hz0:=yh hz0;clear hz0
 have Hz1:=yh hz1;clear hz1
 have Hz2:=yh hz2;clear hz2
 have hnm:nm.length≤maxLen:=by unfold maxLen;omega
 have HF:=yh (find9 nm hd hnm)
 have HD:=yh hd
 have HN:=yh hnm
 obtain⟨R,hR⟩ :∃R,R=appendR l r nm s:=⟨_,rfl⟩
 rw[←hR]
 unfold appendR at hR
 have HI:Hid (∀w,Calls Tryz.prog 89 #[Sb nm] w fun e w'=>e=.returned (.bool (Disk.word nm))∧w=w'):=yh fun w=>yh9 ⟨nm.toArray⟩ w (show nm.toArray.size≤_ by simpa using hn)
 have hsl:(⟨s.toArray⟩:ByteArray).size=s.length:=by show s.toArray.size=_;simp
 have HSL:=yh hsl
 have hbl:=ykt hd nm
 have Hbl:=yh hbl
 clear hd hn hnm hsl hbl
 rcases ydu l r nm with⟨h0,hc⟩|⟨h0,hf,hc⟩|⟨h0,f,hf,hc,hbs,hsf,hfr⟩
 · rw[if_pos h0]at hR
   rw[hc]at HF
   have HR:=yh hR
   generalize safeR l r nm=sf at *
   clear h0 hR hc
   go_enter Tryz.func61,Tryz.ntmps61
   go_wp2_with fail
   refine HF.out.mono ?_
   rintro _ w1 ⟨A,n,c,rfl,hb,hx1,hx2,hx3⟩
   clear hx1 hx2 hx3
   have Hb:=yh (hb.alloc hb.size (.cells #[.slice A n c,.int .i64 sf] 87))
   clear hb
   go_wp2_with fail
   go_ret
   exact⟨by rw[HR.out];rfl,by rw[HR.out];exact .same HD.out Hb.out⟩
 · have hfull:(Fl.find l nm=none∧8≤l.length)↔8≤l.length:=⟨fun h=>h.2,fun h=>⟨hf,h⟩⟩
   rw[if_neg h0]at hR
   rw[hc]at HF
   by_cases hw:Disk.word nm=true
   · rw[hw]at HI
     rw[if_neg (by rw[hw];simp)]at hR
     by_cases hbig:1048576<(bytesR l r nm).length+s.length
     · rw[if_pos hbig]at hR
       have HR:=yh hR
       have Hbig:=yh hbig
       obtain⟨sf,hsf9⟩ :∃sf,sf=safeR l r nm:=⟨_,rfl⟩
       rw[←hsf9]at HF
       clear h0 hR hc hw hbig hsf9 hf hfull
       go_enter Tryz.func61,Tryz.ntmps61
       go_wp2_with fail
       refine HF.out.mono ?_
       rintro _ w1 ⟨A,n,c,rfl,hb,hx1,hx2,hx3⟩
       have d1:decide ((1048576:Int)-(n:Int)<(s.length:Int))=true:=by rw[decide_eq_true_eq,hx1];have:=Hbig.out;omega
       have hw1:IntKind.i64.wrap ((1048576:Int)-(n:Int))=(1048576:Int)-(n:Int):=IntWalk.i64_in _ (by have:=Hbl.out;rw[hx1];omega)
       clear hx1 hx2 hx3
       have Hb:=yh (hb.alloc hb.size (.cells #[.slice A n c,.int .i64 sf] 87))
       clear hb
       go_wp2_with fail
       refine(HI.out _).mono ?_
       rintro _ w2 ⟨rfl,rfl⟩
       go_wp2_with fail
       go_ret
       exact⟨by rw[HR.out];rfl,by rw[HR.out];exact .same HD.out Hb.out⟩
     · rw[if_neg hbig]at hR
       by_cases hfl:8≤l.length
       · rw[if_pos (hfull.2 hfl)]at hR
         have HR:=yh hR
         have Hbig:=yh hbig
         obtain⟨sf,hsf9⟩ :∃sf,sf=safeR l r nm:=⟨_,rfl⟩
         rw[←hsf9]at HF
         have d2:decide ((8:Int)≤(l.length:Int))=true:=by rw[decide_eq_true_eq];omega
         clear h0 hR hc hw hbig hsf9 hf hfull hfl
         go_enter Tryz.func61,Tryz.ntmps61
         go_wp2_with fail
         refine HF.out.mono ?_
         rintro _ w1 ⟨A,n,c,rfl,hb,hx1,hx2,hx3⟩
         have d1:decide ((1048576:Int)-(n:Int)<(s.length:Int))=false:=by rw[decide_eq_false_iff_not,hx1];have:=Hbig.out;omega
         have hw1:IntKind.i64.wrap ((1048576:Int)-(n:Int))=(1048576:Int)-(n:Int):=IntWalk.i64_in _ (by have:=Hbl.out;rw[hx1];omega)
         have hb2:=hb.alloc hb.size (.cells #[.slice A n c,.int .i64 sf] 87)
         obtain⟨sk,hsk,hkk⟩:=HD.out.row
         obtain⟨D,hD,hV⟩:=HD.out.map
         have c0:(w1.alloc (.cells #[.slice A n c,.int .i64 sf] 87)).cell? ⟨g,0,none⟩=some (.map (some M)):=(DkAt.box (hsk.below hb2)).1
         have hDk:(w1.alloc (.cells #[.slice A n c,.int .i64 sf] 87)).ownsMap Tryz.prog 9 heldV M l.length D:=hD.kept (yae hb2 none) (by simp)
         have hlen :∀ty,(Builtin.len_ #[71] ty #[.map (some M)]).run Tryz.prog (w1.alloc (.cells #[.slice A n c,.int .i64 sf] 87))=.ok (.int .i64 (l.length:Int)) (w1.alloc (.cells #[.slice A n c,.int .i64 sf] 87)):=fun ty=>by
          rw[←View.size hD hV HD.out.sorted];exact hDk.len Tryz.underlying71 ty
         have Hb:=yh hb2
         clear hb hb2 hx1 hx2 hx3 hsk hkk hD hV hDk
         go_wp2_with fail
         refine(HI.out _).mono ?_
         rintro _ w2 ⟨rfl,rfl⟩
         go_wp2_with fail
         go_ret
         exact⟨by rw[HR.out];rfl,by rw[HR.out];exact .same HD.out Hb.out⟩
       · rw[if_neg (fun h=>hfl (hfull.1 h))]at hR
         have HR:=yh hR
         have Hbig:=yh hbig
         have H0:=yh h0
         have Hw:=yh hw
         obtain⟨sf,hsf9⟩ :∃sf,sf=safeR l r nm:=⟨_,rfl⟩
         rw[←hsf9]at HF HR
         have Hsf9:=yh hsf9
         have d2:decide ((8:Int)≤(l.length:Int))=false:=by rw[decide_eq_false_iff_not];omega
         have hpl :∀f:Fl,f.name=nm→(Fl.put l f).length≤8:=fun f hfn=>by
          have:=Fl.yd9 l HD.out.sorted f
          rw[hfn,hf]at this
          rw[this];simp;omega
         have HPL:=yh hpl
         clear h0 hR hc hw hbig hsf9 hf hfull hfl hpl
         go_enter Tryz.func61,Tryz.ntmps61
         go_wp2_with fail
         refine HF.out.mono ?_
         rintro _ w1 ⟨A,n,c,rfl,hb,hx1,hown,hx3⟩
         have hAp:=yhb HD.out nm
         rw[hx3]at hAp
         simp only at hAp
         have d1:decide ((1048576:Int)-(n:Int)<(s.length:Int))=false:=by rw[decide_eq_false_iff_not,hx1];have:=Hbig.out;omega
         have hw1:IntKind.i64.wrap ((1048576:Int)-(n:Int))=(1048576:Int)-(n:Int):=IntWalk.i64_in _ (by have:=Hbl.out;rw[hx1];omega)
         have hb2:=hb.alloc hb.size (.cells #[.slice A n c,.int .i64 sf] 87)
         have hrow2:=Row.new w1 87 [.slice A n c,.int .i64 sf]
         obtain⟨sk,hsk,hkk⟩:=HD.out.row
         obtain⟨D,hD,hV⟩:=HD.out.map
         have c0:(w1.alloc (.cells #[.slice A n c,.int .i64 sf] 87)).cell? ⟨g,0,none⟩=some (.map (some M)):=(DkAt.box (hsk.below hb2)).1
         have hDk:(w1.alloc (.cells #[.slice A n c,.int .i64 sf] 87)).ownsMap Tryz.prog 9 heldV M l.length D:=hD.kept (yae hb2 none) (by simp)
         have hlen :∀ty,(Builtin.len_ #[71] ty #[.map (some M)]).run Tryz.prog (w1.alloc (.cells #[.slice A n c,.int .i64 sf] 87))=.ok (.int .i64 (l.length:Int)) (w1.alloc (.cells #[.slice A n c,.int .i64 sf] 87)):=fun ty=>by
          rw[←View.size hD hV HD.out.sorted];exact hDk.len Tryz.underlying71 ty
         have ho2:=hown.alloc (.cells #[.slice A n c,.int .i64 sf] 87)
         have hsrc:Src Tryz.prog 1 9 (Sb s) s.length (byteCells ⟨s.toArray⟩) (w1.alloc (.cells #[.slice A n c,.int .i64 sf] 87)):=by rw[←HSL.out];exact Src.ofString _ Tryz.underlying9 ⟨s.toArray⟩
         have hbase:B≤(w1.alloc (.cells #[.slice A n c,.int .i64 sf] 87)).heap.size:=by
          have h1:=HD.out.lo.1
          have h2:g<w.heap.size:=Row.lt hsk
          have h3:=hb2.size
          omega
         have hbyt:((bytesR l r nm).length+s.length)+((bytesR l r nm).length+s.length) / 4+192≤281474976710656:=by have:=Hbig.out;omega
         have hqw:w.heap.size≤w1.heap.size:=hb.size
         have hgw:g<w.heap.size:=Row.lt hsk
         have hMw:M<w.heap.size:=hD.lt
         have hAw :∀k,(Value.slice A n c).ownBlock=some k→k<w.heap.size:=fun k hk=>by
          have:=yha HD.out nm
          rw[hx3]at this
          exact(this.lt k hk).2
         have HAw:=yh hAw
         have HAp:=yh hAp
         have Hb:=yh hb2
         have HDk:=yh hDk
         have HV:=yh hV
         have Ho2:=yh ho2
         have Hsrc:=yh hsrc
         have Hbase:=yh hbase
         have Hbyt:=yh hbyt
         have Hrow2:=yh hrow2
         have Hq:=yh (And.intro hqw (And.intro hgw hMw))
         clear hb hb2 hx1 hx3 hown hsk hkk hD hV hDk hAp ho2 hsrc hbase hbyt hrow2 hqw hgw hMw hAw
         go_wp2_with fail
         refine(HI.out _).mono ?_
         rintro _ w2 ⟨rfl,rfl⟩
         go_wp2_with (first
          | (at_builtin; refine yeb _ rfl _ _ 85 9 rfl B 5 i0 Tryz.underlying85 Hi.out Hz0.out Hz1.out Hz2.out _ _ _ rfl Ho2.out _ _ _ rfl Hsrc.out Hbyt.out Hbase.out ?_
             intro v' w3 hown3 hg3 hat3
             obtain⟨A3,c3,rfl⟩:=yex hown3
             have hqA:(Value.slice A n c).ownBlock≠some w1.heap.size:=fun e=>by have:=HAw.out _ e;have:=Hq.out.1;omega
             have hrow3:=Hrow2.out.kept hg3 (fun e=>hqA e.symm)
             have f30:=Row.free hrow3 0
             have c30:=Row.cell hrow3 0 (by simp)
             have hset:=Row.set hrow3 0 (.slice A3 ((bytesR l r nm).length+s.length) c3) (by simp)
             have hset0:=Row.cell hset 0 (by simp)
             have hset1:=Row.cell hset 1 (by simp)
             simp only[List.getElem_cons_zero,List.getElem_cons_succ,List.set_cons_zero]at hset0 hset1 c30
             have Hown3:=yh hown3
             have Hg3:=yh hg3
             have Hat3:=yh hat3
             have HqA:=yh hqA
             have Hset:=yh hset
             have Hset0:=yh hset0
             have Hset1:=yh hset1
             clear hown3 hg3 hat3 hqA hrow3 hset hset0 hset1
             go_frame)
          | fail)
         refine ybj 6 (by kernel_rfl) (by kernel_rfl) ?_
         intro w5 hw5
         have hq:=Hq.out
         have hg34:=yaq w3 w1.heap.size 0 (.slice A3 ((bytesR l r nm).length+s.length) c3)
         have hg35:w3.grownBy w5 (some w1.heap.size):=by rw[hw5];exact hg34.trans (ybh _ _)
         have hd0:=(yax hw5 w1.heap.size 0).trans Hset0.out
         have hd1:=(yax hw5 w1.heap.size 1).trans Hset1.out
         have hown5:=Hown3.out.kept hg35 (.inr (fun e=>by
          rcases Hat3.out with h|h
          · exact HqA.out (h.symm.trans e)
          · rw[h]at e;injection e with e;simp at e))
         have hMA:some M≠(Value.slice A n c).ownBlock:=fun e=>(HAp.out M e.symm).1.2.1 rfl
         have hgA:some g≠(Value.slice A n c).ownBlock:=fun e=>(HAp.out g e.symm).1.1 rfl
         have hm5:w5.ownsMap Tryz.prog 9 heldV M l.length D:=(HDk.out.kept Hg3.out hMA).kept hg35 (by simp;omega)
         have c0':w5.cell? ⟨g,0,none⟩=some (.map (some M)):=by
          obtain⟨sk,hsk,_⟩:=HD.out.row
          exact(DkAt.box (((Row.below hsk Hb.out).kept Hg3.out hgA).kept hg35 (by simp;omega))).1
         have hch:Chg (fun k=>(Value.slice A n c).ownBlock=some k) w w5:=
          ((Chg.ya6 (S := fun k => (Value.slice A n c).ownBlock = some k) Hb.out).trans (Chg.yat (S := fun k => (Value.slice A n c).ownBlock = some k) Hg3.out (fun k e => .inl e)) (fun k h => .inl h)).trans
            (Chg.yat (S:=fun k=>k=w1.heap.size) hg35 (fun k e=>by cases e;exact .inl rfl)) (fun k h=>.inr (by omega))
         have hll:l.length<maxLen:=by have:=HD.out.len;unfold maxLen;omega
         have hv2 :∀k,(Value.slice A3 ((bytesR l r nm).length+s.length) c3).ownBlock=some k→(DiskOwn g M l V k∨w.heap.size≤k)∧∀x∈l,x.name≠nm→(V x.name).ownBlock≠some k:=fun k hk=>by
          rcases Hat3.out with h|h
          · have:=HAp.out k (h.symm.trans hk)
            exact⟨.inl this.2,this.1.2.2⟩
          · have hk2:k=(w1.alloc (.cells #[.slice A n c,.int .i64 sf] 87)).heap.size:=by rw[hk]at h;injection h
            have hk3:w.heap.size≤k:=by rw[hk2];simp;omega
            exact⟨.inr hk3,fun x hx _ e=>by have:=HD.out.lt_f hx e;omega⟩
         have hstore :∀w6:World,w6.ownsMap Tryz.prog 9 heldV M (l.length+1) (D.put (KS nm) (.held (Fv (.slice A3 ((bytesR l r nm).length+s.length) c3) sf)))→w5.grownBy w6 (some M)→
          DiskIn w6 B g M (fun x=>if x=nm then .slice A3 ((bytesR l r nm).length+s.length) c3 else V x) (Fl.put l ⟨nm,bytesR l r nm++s,sf⟩) r:=by
          intro w6 hm6 hg6
          have hok:=ymj HD.out nm
          rw[←Hsf9.out]at hok
          have ho5:w5.ownsRow B 5 1 (.slice A3 ((bytesR l r nm).length+s.length) c3) (bytesR l r nm++s).length (cel8 (bytesR l r nm++s)):=by
           have e1:(bytesR l r nm).length+s.length=(bytesR l r nm++s).length:=by rw[List.length_append]
           have e2:cel8 (bytesR l r nm)++byteCells ⟨s.toArray⟩=cel8 (bytesR l r nm++s):=by unfold cel8 byteCells;rw[List.map_append]
           have:=hown5
           rw[e2]at this
           rw[e1]at this ⊢
           exact this
          have hbb:=Hbig.out
          refine HD.out.stored (f:=⟨nm,bytesR l r nm++s,sf⟩) hch (fun k h=>(HAp.out k h).1) ho5 (fun k h=>(hv2 k h).2) HV.out hm6 hg6 (HPL.out _ rfl) ⟨hok.1,show sf≤((bytesR l r nm++s).length:Int) by rw[List.length_append];omega,show (bytesR l r nm++s).length≤1048576 by rw[List.length_append];omega,yin Hw.out⟩
         have Hstore:=yh hstore
         have Hv2:=yh hv2
         have Hch:=yh (hch.mono (fun k h=>(HAp.out k h).2))
         have Hm5:=yh hm5
         clear hw5 hq hg34 hg35 hown5 hMA hgA hm5 hch hv2 hstore c0 hlen c30 f30
         simp only[List.take_succ_cons,List.take_zero,List.drop_succ_cons,List.drop_zero]
         repeat still_step
         refine wpStill_nil ?_
         go_wp2_with (first
          | (at_mapUpdate; refine wpList_mapUpdate_own _ rfl _ _ _ 71 rfl 9 87 lawS Tryz.underlying71 _ M l.length _ rfl Hm5.out hll _ _ _ rfl rfl (keyS nm HN.out) _ [] (yf2 _) ?_; intro w6 hown6 hg6
             have hd6:=Hstore.out w6 hown6 hg6
             have Hg6:=yh hg6
             have Hd6:=yh hd6
             clear hown6 hg6 hd6)
          | fail)
         refine(done9 Hd6.out H0.out).mono ?_
         rintro _ w7 ⟨rfl,hd7,hg7⟩
         have Hd7:=yh hd7
         have Hg7:=yh hg7
         clear hd7 hg7
         go_wp2_with fail
         go_ret
         refine⟨by rw[HR.out];rfl,by rw[HR.out];exact .grownto HD.out Hch.out (fun k h=>(Hv2.out k h).1) Hg6.out Hd7.out Hg7.out⟩
   · rw[if_pos (by simpa using hw)]at hR
     rw[Bool.not_eq_true]at hw
     rw[hw]at HI
     have HR:=yh hR
     generalize safeR l r nm=sf at *
     clear h0 hR hc hw hfull hf
     go_enter Tryz.func61,Tryz.ntmps61
     go_wp2_with fail
     refine HF.out.mono ?_
     rintro _ w1 ⟨A,n,c,rfl,hb,hx1,hx2,hx3⟩
     clear hx1 hx2 hx3
     have Hb:=yh (hb.alloc hb.size (.cells #[.slice A n c,.int .i64 sf] 87))
     clear hb
     go_wp2_with fail
     refine(HI.out _).mono ?_
     rintro _ w2 ⟨rfl,rfl⟩
     go_wp2_with fail
     go_ret
     exact⟨by rw[HR.out];rfl,by rw[HR.out];exact .same HD.out Hb.out⟩
 · have hfull :¬(Fl.find l nm=none∧8≤l.length):=fun h=>by rw[hf]at h;cases h.1
   rw[if_neg h0]at hR
   rw[hc]at HF
   by_cases hw:Disk.word nm=true
   · rw[hw]at HI
     rw[if_neg (by rw[hw];simp)]at hR
     by_cases hbig:1048576<(bytesR l r nm).length+s.length
     · rw[if_pos hbig]at hR
       have HR:=yh hR
       have Hbig:=yh hbig
       obtain⟨sf,hsf9⟩ :∃sf,sf=safeR l r nm:=⟨_,rfl⟩
       rw[←hsf9]at HF
       clear h0 hR hc hw hbig hsf9 hf hbs hsf hfr hfull
       go_enter Tryz.func61,Tryz.ntmps61
       go_wp2_with fail
       refine HF.out.mono ?_
       rintro _ w1 ⟨A,n,c,rfl,hb,hx1,hx2,hx3⟩
       have d1:decide ((1048576:Int)-(n:Int)<(s.length:Int))=true:=by rw[decide_eq_true_eq,hx1];have:=Hbig.out;omega
       have hw1:IntKind.i64.wrap ((1048576:Int)-(n:Int))=(1048576:Int)-(n:Int):=IntWalk.i64_in _ (by have:=Hbl.out;rw[hx1];omega)
       clear hx1 hx2 hx3
       have Hb:=yh (hb.alloc hb.size (.cells #[.slice A n c,.int .i64 sf] 87))
       clear hb
       go_wp2_with fail
       refine(HI.out _).mono ?_
       rintro _ w2 ⟨rfl,rfl⟩
       go_wp2_with fail
       go_ret
       exact⟨by rw[HR.out];rfl,by rw[HR.out];exact .same HD.out Hb.out⟩
     · rw[if_neg hbig]at hR
       · rw[if_neg hfull]at hR
         have HR:=yh hR
         have Hbig:=yh hbig
         have H0:=yh h0
         have Hw:=yh hw
         obtain⟨sf,hsf9⟩ :∃sf,sf=safeR l r nm:=⟨_,rfl⟩
         rw[←hsf9]at HF HR
         have Hsf9:=yh hsf9
         have hpl :∀f:Fl,f.name=nm→(Fl.put l f).length≤8:=fun f2 hfn=>by
          have:=Fl.yd9 l HD.out.sorted f2
          rw[hfn,hf]at this
          rw[this];simpa using HD.out.len
         have HPL:=yh hpl
         clear h0 hR hc hw hbig hsf9 hf hbs hsf hfr hfull hpl
         go_enter Tryz.func61,Tryz.ntmps61
         go_wp2_with fail
         refine HF.out.mono ?_
         rintro _ w1 ⟨A,n,c,rfl,hb,hx1,hown,hx3⟩
         have hAp:=yhb HD.out nm
         rw[hx3]at hAp
         simp only at hAp
         have d1:decide ((1048576:Int)-(n:Int)<(s.length:Int))=false:=by rw[decide_eq_false_iff_not,hx1];have:=Hbig.out;omega
         have hw1:IntKind.i64.wrap ((1048576:Int)-(n:Int))=(1048576:Int)-(n:Int):=IntWalk.i64_in _ (by have:=Hbl.out;rw[hx1];omega)
         have hb2:=hb.alloc hb.size (.cells #[.slice A n c,.int .i64 sf] 87)
         have hrow2:=Row.new w1 87 [.slice A n c,.int .i64 sf]
         obtain⟨sk,hsk,hkk⟩:=HD.out.row
         obtain⟨D,hD,hV⟩:=HD.out.map
         have c0:(w1.alloc (.cells #[.slice A n c,.int .i64 sf] 87)).cell? ⟨g,0,none⟩=some (.map (some M)):=(DkAt.box (hsk.below hb2)).1
         have hDk:(w1.alloc (.cells #[.slice A n c,.int .i64 sf] 87)).ownsMap Tryz.prog 9 heldV M l.length D:=hD.kept (yae hb2 none) (by simp)
         have hlen :∀ty,(Builtin.len_ #[71] ty #[.map (some M)]).run Tryz.prog (w1.alloc (.cells #[.slice A n c,.int .i64 sf] 87))=.ok (.int .i64 (l.length:Int)) (w1.alloc (.cells #[.slice A n c,.int .i64 sf] 87)):=fun ty=>by
          rw[←View.size hD hV HD.out.sorted];exact hDk.len Tryz.underlying71 ty
         have ho2:=hown.alloc (.cells #[.slice A n c,.int .i64 sf] 87)
         have hsrc:Src Tryz.prog 1 9 (Sb s) s.length (byteCells ⟨s.toArray⟩) (w1.alloc (.cells #[.slice A n c,.int .i64 sf] 87)):=by rw[←HSL.out];exact Src.ofString _ Tryz.underlying9 ⟨s.toArray⟩
         have hbase:B≤(w1.alloc (.cells #[.slice A n c,.int .i64 sf] 87)).heap.size:=by
          have h1:=HD.out.lo.1
          have h2:g<w.heap.size:=Row.lt hsk
          have h3:=hb2.size
          omega
         have hbyt:((bytesR l r nm).length+s.length)+((bytesR l r nm).length+s.length) / 4+192≤281474976710656:=by have:=Hbig.out;omega
         have hqw:w.heap.size≤w1.heap.size:=hb.size
         have hgw:g<w.heap.size:=Row.lt hsk
         have hMw:M<w.heap.size:=hD.lt
         have hAw :∀k,(Value.slice A n c).ownBlock=some k→k<w.heap.size:=fun k hk=>by
          have:=yha HD.out nm
          rw[hx3]at this
          exact(this.lt k hk).2
         have HAw:=yh hAw
         have HAp:=yh hAp
         have Hb:=yh hb2
         have HDk:=yh hDk
         have HV:=yh hV
         have Ho2:=yh ho2
         have Hsrc:=yh hsrc
         have Hbase:=yh hbase
         have Hbyt:=yh hbyt
         have Hrow2:=yh hrow2
         have Hq:=yh (And.intro hqw (And.intro hgw hMw))
         clear hb hb2 hx1 hx3 hown hsk hkk hD hV hDk hAp ho2 hsrc hbase hbyt hrow2 hqw hgw hMw hAw
         go_wp2_with fail
         refine(HI.out _).mono ?_
         rintro _ w2 ⟨rfl,rfl⟩
         go_wp2_with (first
          | (at_builtin; refine yeb _ rfl _ _ 85 9 rfl B 5 i0 Tryz.underlying85 Hi.out Hz0.out Hz1.out Hz2.out _ _ _ rfl Ho2.out _ _ _ rfl Hsrc.out Hbyt.out Hbase.out ?_
             intro v' w3 hown3 hg3 hat3
             obtain⟨A3,c3,rfl⟩:=yex hown3
             have hqA:(Value.slice A n c).ownBlock≠some w1.heap.size:=fun e=>by have:=HAw.out _ e;have:=Hq.out.1;omega
             have hrow3:=Hrow2.out.kept hg3 (fun e=>hqA e.symm)
             have f30:=Row.free hrow3 0
             have c30:=Row.cell hrow3 0 (by simp)
             have hset:=Row.set hrow3 0 (.slice A3 ((bytesR l r nm).length+s.length) c3) (by simp)
             have hset0:=Row.cell hset 0 (by simp)
             have hset1:=Row.cell hset 1 (by simp)
             simp only[List.getElem_cons_zero,List.getElem_cons_succ,List.set_cons_zero]at hset0 hset1 c30
             have Hown3:=yh hown3
             have Hg3:=yh hg3
             have Hat3:=yh hat3
             have HqA:=yh hqA
             have Hset:=yh hset
             have Hset0:=yh hset0
             have Hset1:=yh hset1
             clear hown3 hg3 hat3 hqA hrow3 hset hset0 hset1
             go_frame)
          | fail)
         refine ybj 6 (by kernel_rfl) (by kernel_rfl) ?_
         intro w5 hw5
         have hq:=Hq.out
         have hg34:=yaq w3 w1.heap.size 0 (.slice A3 ((bytesR l r nm).length+s.length) c3)
         have hg35:w3.grownBy w5 (some w1.heap.size):=by rw[hw5];exact hg34.trans (ybh _ _)
         have hd0:=(yax hw5 w1.heap.size 0).trans Hset0.out
         have hd1:=(yax hw5 w1.heap.size 1).trans Hset1.out
         have hown5:=Hown3.out.kept hg35 (.inr (fun e=>by
          rcases Hat3.out with h|h
          · exact HqA.out (h.symm.trans e)
          · rw[h]at e;injection e with e;simp at e))
         have hMA:some M≠(Value.slice A n c).ownBlock:=fun e=>(HAp.out M e.symm).1.2.1 rfl
         have hgA:some g≠(Value.slice A n c).ownBlock:=fun e=>(HAp.out g e.symm).1.1 rfl
         have hm5:w5.ownsMap Tryz.prog 9 heldV M l.length D:=(HDk.out.kept Hg3.out hMA).kept hg35 (by simp;omega)
         have c0':w5.cell? ⟨g,0,none⟩=some (.map (some M)):=by
          obtain⟨sk,hsk,_⟩:=HD.out.row
          exact(DkAt.box (((Row.below hsk Hb.out).kept Hg3.out hgA).kept hg35 (by simp;omega))).1
         have hch:Chg (fun k=>(Value.slice A n c).ownBlock=some k) w w5:=
          ((Chg.ya6 (S := fun k => (Value.slice A n c).ownBlock = some k) Hb.out).trans (Chg.yat (S := fun k => (Value.slice A n c).ownBlock = some k) Hg3.out (fun k e => .inl e)) (fun k h => .inl h)).trans
            (Chg.yat (S:=fun k=>k=w1.heap.size) hg35 (fun k e=>by cases e;exact .inl rfl)) (fun k h=>.inr (by omega))
         have hll:l.length<maxLen:=by have:=HD.out.len;unfold maxLen;omega
         have hv2 :∀k,(Value.slice A3 ((bytesR l r nm).length+s.length) c3).ownBlock=some k→(DiskOwn g M l V k∨w.heap.size≤k)∧∀x∈l,x.name≠nm→(V x.name).ownBlock≠some k:=fun k hk=>by
          rcases Hat3.out with h|h
          · have:=HAp.out k (h.symm.trans hk)
            exact⟨.inl this.2,this.1.2.2⟩
          · have hk2:k=(w1.alloc (.cells #[.slice A n c,.int .i64 sf] 87)).heap.size:=by rw[hk]at h;injection h
            have hk3:w.heap.size≤k:=by rw[hk2];simp;omega
            exact⟨.inr hk3,fun x hx _ e=>by have:=HD.out.lt_f hx e;omega⟩
         have hstore :∀w6:World,w6.ownsMap Tryz.prog 9 heldV M (l.length+1) (D.put (KS nm) (.held (Fv (.slice A3 ((bytesR l r nm).length+s.length) c3) sf)))→w5.grownBy w6 (some M)→
          DiskIn w6 B g M (fun x=>if x=nm then .slice A3 ((bytesR l r nm).length+s.length) c3 else V x) (Fl.put l ⟨nm,bytesR l r nm++s,sf⟩) r:=by
          intro w6 hm6 hg6
          have hok:=ymj HD.out nm
          rw[←Hsf9.out]at hok
          have ho5:w5.ownsRow B 5 1 (.slice A3 ((bytesR l r nm).length+s.length) c3) (bytesR l r nm++s).length (cel8 (bytesR l r nm++s)):=by
           have e1:(bytesR l r nm).length+s.length=(bytesR l r nm++s).length:=by rw[List.length_append]
           have e2:cel8 (bytesR l r nm)++byteCells ⟨s.toArray⟩=cel8 (bytesR l r nm++s):=by unfold cel8 byteCells;rw[List.map_append]
           have:=hown5
           rw[e2]at this
           rw[e1]at this ⊢
           exact this
          have hbb:=Hbig.out
          refine HD.out.stored (f:=⟨nm,bytesR l r nm++s,sf⟩) hch (fun k h=>(HAp.out k h).1) ho5 (fun k h=>(hv2 k h).2) HV.out hm6 hg6 (HPL.out _ rfl) ⟨hok.1,show sf≤((bytesR l r nm++s).length:Int) by rw[List.length_append];omega,show (bytesR l r nm++s).length≤1048576 by rw[List.length_append];omega,yin Hw.out⟩
         have Hstore:=yh hstore
         have Hv2:=yh hv2
         have Hch:=yh (hch.mono (fun k h=>(HAp.out k h).2))
         have Hm5:=yh hm5
         clear hw5 hq hg34 hg35 hown5 hMA hgA hm5 hch hv2 hstore c0 hlen c30 f30
         simp only[List.take_succ_cons,List.take_zero,List.drop_succ_cons,List.drop_zero]
         repeat still_step
         refine wpStill_nil ?_
         go_wp2_with (first
          | (at_mapUpdate; refine wpList_mapUpdate_own _ rfl _ _ _ 71 rfl 9 87 lawS Tryz.underlying71 _ M l.length _ rfl Hm5.out hll _ _ _ rfl rfl (keyS nm HN.out) _ [] (yf2 _) ?_; intro w6 hown6 hg6
             have hd6:=Hstore.out w6 hown6 hg6
             have Hg6:=yh hg6
             have Hd6:=yh hd6
             clear hown6 hg6 hd6)
          | fail)
         refine(done9 Hd6.out H0.out).mono ?_
         rintro _ w7 ⟨rfl,hd7,hg7⟩
         have Hd7:=yh hd7
         have Hg7:=yh hg7
         clear hd7 hg7
         go_wp2_with fail
         go_ret
         refine⟨by rw[HR.out];rfl,by rw[HR.out];exact .grownto HD.out Hch.out (fun k h=>(Hv2.out k h).1) Hg6.out Hd7.out Hg7.out⟩
   · rw[if_pos (by simpa using hw)]at hR
     rw[Bool.not_eq_true]at hw
     rw[hw]at HI
     have HR:=yh hR
     generalize safeR l r nm=sf at *
     clear h0 hR hc hw hfull hf hbs hsf hfr
     go_enter Tryz.func61,Tryz.ntmps61
     go_wp2_with fail
     refine HF.out.mono ?_
     rintro _ w1 ⟨A,n,c,rfl,hb,hx1,hx2,hx3⟩
     clear hx1 hx2 hx3
     have Hb:=yh (hb.alloc hb.size (.cells #[.slice A n c,.int .i64 sf] 87))
     clear hb
     go_wp2_with fail
     refine(HI.out _).mono ?_
     rintro _ w2 ⟨rfl,rfl⟩
     go_wp2_with fail
     go_ret
     exact⟨by rw[HR.out];rfl,by rw[HR.out];exact .same HD.out Hb.out⟩
end
section
open Go.RowKit Go.Maps
theorem DiskIn.below_own {w:World}{B g M:Nat}{V:Fl.Nm→Value}{l:List Fl}{r:Int}(hd:DiskIn w B g M V l r) :∀k,DiskOwn g M l V k→k<w.heap.size:=by
 intro k hk
 rcases hk with rfl|rfl|⟨f,hf,hk⟩
 · obtain⟨s,hs,_⟩:=hd.row;exact Row.lt hs
 · exact hd.map.lt
 · exact hd.lt_f hf hk
end
section
open Go.RowKit Go.Maps
theorem DiskTo.toS {w w':World}{B g M:Nat}{V:Fl.Nm→Value}{l l':List Fl}{r':Int}{S:Nat→Prop}(hz :∀k,S k→B≤k∧k<w.heap.size)(ho :∀k,DiskOwn g M l V k→S k)(hB:B≤w.heap.size)(h:DiskTo w w' B g M V l l' r'):DiskS w' B (Plus S w w') g l' r'∧Chg S w w':=by
 obtain⟨V',hd,hc,hs⟩:=h
 refine⟨⟨fun k hk=>?_,M,V',hd,fun k hk=>?_⟩,hc.mono ho⟩
 · rcases hk with hk|hk
   · exact⟨(hz k hk).1,Nat.lt_of_lt_of_le (hz k hk).2 hc.size⟩
   · exact⟨by omega,hk.2⟩
 · rcases hs k hk with h|h
   · exact .inl (ho k h)
   · exact .inr ⟨h,hd.below_own k hk⟩
theorem DiskS.Ble {w:World}{B g:Nat}{S:Nat→Prop}{l:List Fl}{r:Int}(h:DiskS w B S g l r):B≤w.heap.size:=by
 obtain⟨hz,M,V,hd,ho⟩:=h
 have:=hz g (ho g (.inl rfl))
 omega
theorem DiskS.g {w:World}{B g:Nat}{S:Nat→Prop}{l:List Fl}{r:Int}(h:DiskS w B S g l r):S g:=by
 obtain⟨hz,M,V,hd,ho⟩:=h
 exact ho g (.inl rfl)
theorem DiskS.below {w w':World}{B g:Nat}{S:Nat→Prop}{l:List Fl}{r:Int}(h:DiskS w B S g l r)(hb:Below w.heap.size w w'):DiskS w' B S g l r:=
 h.kept (Chg.ya6 (S:=fun _=>False) hb) (fun _ _ h=>h)
section
variable {w : World} {B g : Nat} {S : Nat → Prop} {l : List Fl} {r : Int}
theorem ym7 (nm s:Fl.Nm)(h:DiskS w B S g l r)(hn:nm.length≤140737488351232)(ht:s.length≤140737488351232):
 Calls Tryz.prog 61 #[.pointer (some ⟨g,0,none⟩),Sb nm,Sb s] w fun e w'=>e=.returned (.int .i64 (appendR l r nm s).2.2)∧DiskS w' B (Plus S w w') g (appendR l r nm s).1 (appendR l r nm s).2.1∧Chg S w w':=by
 have hB:=h.Ble
 obtain⟨hz,M,V,hd,ho⟩:=h
 refine(yox nm s hd hn ht).mono ?_
 rintro e w' ⟨rfl,ht⟩
 exact⟨rfl,ht.toS hz ho hB⟩
theorem ypj (nm:Fl.Nm)(h:DiskS w B S g l r)(hn:nm.length≤maxLen):
 Calls Tryz.prog 58 #[.pointer (some ⟨g,0,none⟩),Sb nm] w fun e w'=>e=.returned (.int .i64 (syncR l r nm).2.2)∧DiskS w' B (Plus S w w') g (syncR l r nm).1 (syncR l r nm).2.1∧Chg S w w':=by
 have hB:=h.Ble
 obtain⟨hz,M,V,hd,ho⟩:=h
 refine(ysg nm hd hn).mono ?_
 rintro e w' ⟨rfl,ht⟩
 exact⟨rfl,ht.toS hz ho hB⟩
theorem ysu (nm:Fl.Nm)(h:DiskS w B S g l r)(hn:nm.length≤maxLen):
 Calls Tryz.prog 54 #[.pointer (some ⟨g,0,none⟩),Sb nm] w fun e w'=>e=.returned (.int .i64 (removeR l r nm).2.2)∧DiskS w' B (Plus S w w') g (removeR l r nm).1 (removeR l r nm).2.1∧Chg S w w':=by
 have hB:=h.Ble
 obtain⟨hz,M,V,hd,ho⟩:=h
 refine(ynt nm hd hn).mono ?_
 rintro e w' ⟨rfl,ht⟩
 exact⟨rfl,ht.toS hz ho hB⟩
theorem yss (nm to:Fl.Nm)(h:DiskS w B S g l r)(hn:nm.length≤maxLen)(ht:to.length≤140737488351232):
 Calls Tryz.prog 124 #[.pointer (some ⟨g,0,none⟩),Sb nm,Sb to] w fun e w'=>e=.returned (.int .i64 (renameR l r nm to).2.2)∧DiskS w' B (Plus S w w') g (renameR l r nm to).1 (renameR l r nm to).2.1∧Chg S w w':=by
 have hB:=h.Ble
 obtain⟨hz,M,V,hd,ho⟩:=h
 refine(yns nm to hd hn ht).mono ?_
 rintro e w' ⟨rfl,ht⟩
 exact⟨rfl,ht.toS hz ho hB⟩
theorem read_S (nm:Fl.Nm)(h:DiskS w B S g l r)(hn:nm.length≤maxLen):
 Calls Tryz.prog 55 #[.pointer (some ⟨g,0,none⟩),Sb nm] w fun e w'=>e=.returned (.tuple #[Sb (bytesR l r nm),.int .i64 (codeR l r nm)])∧Below w.heap.size w w':=by
 obtain⟨hz,M,V,hd,ho⟩:=h
 exact ysy nm hd hn
theorem down_S (h:DiskS w B S g l r):Calls Tryz.prog 36 #[.pointer (some ⟨g,0,none⟩)] w fun e w'=>e=.returned (.bool (decide (r=0)))∧w=w':=by
 obtain⟨hz,M,V,hd,ho⟩:=h
 obtain⟨s,hs,hk⟩:=hd.row
 rw[←hk.down]
 exact yu1 hs
end
end
end Go.Proofs.YtalfnadejpmjnaaGreatDoor.Jn
