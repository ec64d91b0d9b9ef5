/- A part. -/
import Derived.Test.YtalfnadejpmjnaaGreatDoorProg
import Derived.Test.YtalfnadejpmjnaaGreatDoorNSlO
import Derived.Laws.Rows
import Derived.Deep.Draws
import Derived.Laws.Tables
import Derived.StillTailTactics
import Derived.IntWalk
set_option linter.unusedVariables false
set_option linter.unusedSimpArgs false
set_option maxRecDepth 100000
set_option maxHeartbeats 25600000
namespace Go.Proofs.YtalfnadejpmjnaaGreatDoor
section
namespace Sha
def add (a b:Nat):Nat:=(a+b)%4294967296
def rot (n x:Nat):Nat:=x / 2 ^ n+x*2 ^ (32-n)%4294967296
def big0 (x:Nat):Nat:=rot 2 x ^^^ rot 13 x ^^^ rot 22 x
def big1 (x:Nat):Nat:=rot 6 x ^^^ rot 11 x ^^^ rot 25 x
def lit0 (x:Nat):Nat:=rot 7 x ^^^ rot 18 x ^^^ (x / 8)
def lit1 (x:Nat):Nat:=rot 17 x ^^^ rot 19 x ^^^ (x / 1024)
def ch (e f g:Nat):Nat:=(e &&& f) ^^^ ((4294967295-e) &&& g)
def maj (a b c:Nat):Nat:=(a &&& b) ^^^ (a &&& c) ^^^ (b &&& c)
def kk:List Nat:=[
 0x428a2f98,0x71374491,0xb5c0fbcf,0xe9b5dba5,0x3956c25b,0x59f111f1,0x923f82a4,0xab1c5ed5,
 0xd807aa98,0x12835b01,0x243185be,0x550c7dc3,0x72be5d74,0x80deb1fe,0x9bdc06a7,0xc19bf174,
 0xe49b69c1,0xefbe4786,0x0fc19dc6,0x240ca1cc,0x2de92c6f,0x4a7484aa,0x5cb0a9dc,0x76f988da,
 0x983e5152,0xa831c66d,0xb00327c8,0xbf597fc7,0xc6e00bf3,0xd5a79147,0x06ca6351,0x14292967,
 0x27b70a85,0x2e1b2138,0x4d2c6dfc,0x53380d13,0x650a7354,0x766a0abb,0x81c2c92e,0x92722c85,
 0xa2bfe8a1,0xa81a664b,0xc24b8b70,0xc76c51a3,0xd192e819,0xd6990624,0xf40e3585,0x106aa070,
 0x19a4c116,0x1e376c08,0x2748774c,0x34b0bcb5,0x391c0cb3,0x4ed8aa4a,0x5b9cca4f,0x682e6ff3,
 0x748f82ee,0x78a5636f,0x84c87814,0x8cc70208,0x90befffa,0xa4506ceb,0xbef9a3f7,0xc67178f2]
def word (l:List UInt8)(t:Nat):Nat:=(l.getD (4*t) 0).toNat*16777216+(l.getD (4*t+1) 0).toNat*65536+(l.getD (4*t+2) 0).toNat*256+(l.getD (4*t+3) 0).toNat
def next (w:List Nat):Nat:=add (add (add (lit1 (w.getD (w.length-2) 0)) (w.getD (w.length-7) 0)) (lit0 (w.getD (w.length-15) 0))) (w.getD (w.length-16) 0)
def words (l:List UInt8):Nat→List Nat
 | 0=>[]
 | n+1=>words l n ++ [if n<16 then word l n else next (words l n)]
structure St where
 (a b c d e f g h:Nat)
def rnd (s:St)(k w:Nat):St:=
 let x:=add (add (add (add s.h (big1 s.e)) (ch s.e s.f s.g)) k) w
 let y:=add (big0 s.a) (maj s.a s.b s.c)
 ⟨add x y,s.a,s.b,s.c,add s.d x,s.e,s.f,s.g⟩
def rnds (s:St)(w:List Nat):Nat→St
 | 0=>s
 | n+1=>rnd (rnds s w n) (kk.getD n 0) (w.getD n 0)
def plus (s t:St):St:=⟨add s.a t.a,add s.b t.b,add s.c t.c,add s.d t.d,add s.e t.e,add s.f t.f,add s.g t.g,add s.h t.h⟩
def step (s:St)(l:List UInt8):St:=plus s (rnds s (words l 64) 64)
def start:St:=⟨0x6a09e667,0xbb67ae85,0x3c6ef372,0xa54ff53a,0x510e527f,0x9b05688c,0x1f83d9ab,0x5be0cd19⟩
def runs (s:St)(l:List UInt8):Nat→St
 | 0=>s
 | n+1=>step (runs s l n) ((l.drop (64*n)).take 64)
def len8 (n:Nat):List UInt8:=[7,6,5,4,3,2,1,0].map fun i=>UInt8.ofNat (n*8%18446744073709551616 / 2 ^ (8*i)%256)
def pad (l:List UInt8):List UInt8:=l++128::(List.replicate ((119-l.length%64)%64) 0++len8 l.length)
def at_ (s:St):Nat→Nat
 | 0=>s.a|1=>s.b|2=>s.c|3=>s.d|4=>s.e|5=>s.f|6=>s.g|_=>s.h
def bytes (s:St):List UInt8:=(List.range 32).map fun i=>UInt8.ofNat (at_ s (i / 4) / 2 ^ (24-8*(i%4))%256)
def sum (l:List UInt8):List UInt8:=bytes (runs start (pad l) ((pad l).length / 64))
theorem yd6 (a b:Nat):add a b<4294967296:=Nat.mod_lt _ (by decide)
theorem ybu (n x:Nat)(hn:1≤n)(hn2:n≤31)(hx:x<4294967296):rot n x<4294967296:=by
 unfold rot
 have e : (4294967296 : Nat) = 2 ^ (32 - n) * 2 ^ n := by rw [← Nat.pow_add]; have : 32 - n + n = 32 := by omega
                                                          rw[this]
 have h1:x / 2 ^ n<2 ^ (32-n):=by rw[Nat.div_lt_iff_lt_mul (Nat.two_pow_pos n),←e];exact hx
 have h2:x*2 ^ (32-n)%4294967296=(x%2 ^ n)*2 ^ (32-n):=by
  rw[e,Nat.mul_comm (2 ^ (32-n)) (2 ^ n),Nat.mul_mod_mul_right]
 have h3:x%2 ^ n≤2 ^ n-1:=by have:=Nat.mod_lt x (Nat.two_pow_pos n);omega
 have h4:(x%2 ^ n)*2 ^ (32-n)≤(2 ^ n-1)*2 ^ (32-n):=Nat.mul_le_mul_right _ h3
 have h5:(2 ^ n-1)*2 ^ (32-n)+2 ^ (32-n)=2 ^ (32-n)*2 ^ n:=by
  rw[←Nat.succ_mul,Nat.succ_eq_add_one,Nat.sub_add_cancel (Nat.two_pow_pos n),Nat.mul_comm]
 rw[h2]
 omega
theorem rot_or (n x:Nat)(hn:1≤n)(hn2:n≤31)(hx:x<4294967296):(x*2 ^ (32-n)%4294967296) ||| (x / 2 ^ n)=rot n x:=by
 unfold rot
 have e : (4294967296 : Nat) = 2 ^ (32 - n) * 2 ^ n := by rw [← Nat.pow_add]; have : 32 - n + n = 32 := by omega
                                                          rw[this]
 have h1:x / 2 ^ n<2 ^ (32-n):=by rw[Nat.div_lt_iff_lt_mul (Nat.two_pow_pos n),←e];exact hx
 have h2:x*2 ^ (32-n)%4294967296=(x%2 ^ n)*2 ^ (32-n):=by
  rw[e,Nat.mul_comm (2 ^ (32-n)) (2 ^ n),Nat.mul_mod_mul_right]
 rw[h2,←Nat.shiftLeft_eq,←Nat.shiftLeft_add_eq_or_of_lt h1,Nat.add_comm]
theorem ydc {a b:Nat}(ha:a<4294967296)(hb:b<4294967296):a ^^^ b<4294967296:=Nat.xor_lt_two_pow (n:=32) ha hb
theorem yc5 {a b:Nat}(ha:a<4294967296):a &&& b<4294967296:=Nat.lt_of_le_of_lt Nat.and_le_left ha
theorem yt9 (l:List UInt8)(t:Nat):word l t<4294967296:=by
 unfold word
 have h1:=(l.getD (4*t) 0).toNat_lt
 have h2:=(l.getD (4*t+1) 0).toNat_lt
 have h3:=(l.getD (4*t+2) 0).toNat_lt
 have h4:=(l.getD (4*t+3) 0).toNat_lt
 omega
theorem yup (w:List Nat):next w<4294967296:=yd6 _ _
theorem ybk (l:List UInt8)(n:Nat):(words l n).length=n:=by
 induction n with
 | zero=>rfl
 | succ n ih=>simp[words,ih]
theorem ymb (l:List UInt8)(n:Nat) :∀x∈words l n,x<4294967296:=by
 induction n with
 | zero=>simp[words]
 | succ n ih=>
   intro x hx
   simp only[words,List.mem_append,List.mem_singleton]at hx
   rcases hx with h|h
   · exact ih x h
   · rw[h];split
     · exact yt9 _ _
     · exact yup _
def St.ok (s:St):Prop:=s.a<4294967296∧s.b<4294967296∧s.c<4294967296∧s.d<4294967296∧s.e<4294967296∧s.f<4294967296∧s.g<4294967296∧s.h<4294967296
theorem yer:start.ok:=by unfold St.ok start;decide
theorem rnd_ok {s:St}(k w:Nat)(h:s.ok):(rnd s k w).ok:=by
 obtain⟨h1,h2,h3,h4,h5,h6,h7,h8⟩:=h
 exact⟨yd6 _ _,h1,h2,h3,yd6 _ _,h5,h6,h7⟩
theorem ylc {s:St}(w:List Nat)(h:s.ok) :∀n,(rnds s w n).ok
 | 0=>h
 | n+1=>rnd_ok _ _ (ylc w h n)
theorem yuk (s t:St):(plus s t).ok:=⟨yd6 _ _,yd6 _ _,yd6 _ _,yd6 _ _,yd6 _ _,yd6 _ _,yd6 _ _,yd6 _ _⟩
theorem yuf (s:St)(l:List UInt8):(step s l).ok:=yuk _ _
theorem yef {s:St}(l:List UInt8)(h:s.ok) :∀n,(runs s l n).ok
 | 0=>h
 | n+1=>yuf _ _
theorem yf1 (n:Nat):(len8 n).length=8:=rfl
theorem yum (l:List UInt8):(pad l).length%64=0∧(pad l).length=l.length+9+(119-l.length%64)%64:=by
 have h:(pad l).length=l.length+9+(119-l.length%64)%64:=by
  simp[pad,yf1];omega
 exact⟨by rw[h];omega,h⟩
theorem ya9 (s:St):(bytes s).length=32:=by simp[bytes]
theorem ygh (l:List UInt8):(sum l).length=32:=ya9 _
end Sha
end
section
open Go.RowKit
theorem ya8 (a:Nat)(ha:a<4294967296):(BitVec.ofInt 32 (a:Int)).toNat=a:=by
 simp only[BitVec.ofInt_natCast,BitVec.toNat_ofNat]
 exact Nat.mod_eq_of_lt (by omega)
theorem wrap32u (a:Nat)(ha:a<4294967296):IntKind.u32.wrap (a:Int)=(a:Int):=by rw[IntKind.wrap_u32];omega
theorem or32 {a b:Nat}(ha:a<4294967296)(hb:b<4294967296):bits .or .u32 (a:Int) (b:Int)=((a ||| b:Nat):Int):=by
 show IntKind.u32.wrap ((BitVec.ofInt 32 (a:Int) ||| BitVec.ofInt 32 (b:Int)).toNat:Int)=_
 rw[BitVec.toNat_or,ya8 a ha,ya8 b hb,wrap32u _ (Nat.or_lt_two_pow (n:=32) ha hb)]
theorem xor32 {a b:Nat}(ha:a<4294967296)(hb:b<4294967296):bits .xor .u32 (a:Int) (b:Int)=((a ^^^ b:Nat):Int):=by
 show IntKind.u32.wrap ((BitVec.ofInt 32 (a:Int) ^^^ BitVec.ofInt 32 (b:Int)).toNat:Int)=_
 rw[BitVec.toNat_xor,ya8 a ha,ya8 b hb,wrap32u _ (Sha.ydc ha hb)]
theorem and32 {a b:Nat}(ha:a<4294967296)(hb:b<4294967296):bits .and .u32 (a:Int) (b:Int)=((a &&& b:Nat):Int):=by
 show IntKind.u32.wrap ((BitVec.ofInt 32 (a:Int) &&& BitVec.ofInt 32 (b:Int)).toNat:Int)=_
 rw[BitVec.toNat_and,ya8 a ha,ya8 b hb,wrap32u _ (Sha.yc5 ha)]
theorem ync :∀m:Fin 32,1≤m.1→bits .and .u64 (IntKind.u64.wrap (-(m.1:Int))) 31=32-(m.1:Int):=by decide +kernel
theorem ysp (x n:Nat)(w:World)(hx:x<4294967296)(h1:1≤n)(h2:n≤31):
 Calls Tryz.prog 204 #[.int .u32 x,.int .i64 (-(n:Int))] w fun e w'=>e=.returned (.int .u32 (Sha.rot n x))∧w=w':=by
 have hc:=ync ⟨n,by omega⟩ h1
 simp only at hc
 obtain⟨m,hm⟩ :∃m:Nat,m=32-n:=⟨_,rfl⟩
 have hm2:(32-(n:Int))=(m:Int):=by omega
 rw[hm2]at hc
 have hm3:m≤31:=by omega
 have hm4:1≤m:=by omega
 have Hm:=yh hm
 clear hm hm2
 go_enter Tryz.func204,Tryz.ntmps204
 go_wp2_with fail
 go_ret
 refine⟨?_,rfl⟩
 have em:=Hm.out
 have e1:(x:Int)*2 ^ m%4294967296=((x*2 ^ m%4294967296:Nat):Int):=by simp
 have e2:(x:Int) / 2 ^ (32-m)=((x / 2 ^ (32-m):Nat):Int):=by simp
 have h3:x / 2 ^ (32-m)<4294967296:=Nat.lt_of_le_of_lt (Nat.div_le_self _ _) hx
 show Ending.returned (Value.int .u32 (bits BinOp.or IntKind.u32 ((x:Int)*2 ^ m%4294967296) ((x:Int) / 2 ^ (32-m))))=_
 rw[e1,e2,or32 (Nat.mod_lt _ (by decide)) h3]
 have e3:32-m=n:=by omega
 rw[e3,em,Sha.rot_or n x h1 h2 hx]
theorem ynb (x n:Nat)(w:World)(hx:x<4294967296)(h1:1≤n)(h2:n≤31):
 Calls Tryz.prog 200 #[.int .u32 x,.int .i64 n] w fun e w'=>e=.returned (.int .u32 (Sha.rot n x))∧w=w':=by
 go_enter Tryz.func200,Tryz.ntmps200
 go_wp2_with fail
 refine(ysp x n _ hx h1 h2).mono ?_
 rintro e w' ⟨rfl,rfl⟩
 go_wp2_with fail
 go_ret
 exact⟨rfl,rfl⟩
end
section
open Go.RowKit
def Holds (w:World)(b:Nat)(cs:Array Value):Prop :=∃T,w.heap[b]? = some (.cells cs T (0,0))
section
variable {w w' : World} {b : Nat} {cs : Array Value}
theorem Holds.lt (h:Holds w b cs):b<w.heap.size:=by
 obtain⟨T,h⟩:=h
 rcases Nat.lt_or_ge b w.heap.size with h1|h1
 · exact h1
 · rw[Array.getElem?_eq_none h1]at h;cases h
theorem Holds.cell (h:Holds w b cs)(i:Nat):w.cell? ⟨b,i,none⟩=cs[i]?:=by
 obtain⟨T,h⟩:=h
 exact cell_of_row w b i cs T (0,0) h
theorem Holds.free (h:Holds w b cs)(i:Nat):w.frozen? ⟨b,i,none⟩=false:=by
 obtain⟨T,h⟩:=h
 simp[World.frozen?,h]
theorem Holds.new (w:World)(T:TypeId)(cs:Array Value):Holds (w.alloc (.cells cs T)) w.heap.size cs:=⟨T,heap_alloc_new w _⟩
theorem Holds.new2 {w:World}{T:TypeId}{cs cs':Array Value}{n:Nat}(hn:n=w.heap.size)(hc:cs'=cs):Holds (w.alloc (.cells cs' T)) n cs:=by
 subst hn hc;exact Holds.new _ _ _
theorem Holds.drew (h:Holds w b cs):Holds w.drew b cs:=h
theorem Holds.drewN (h:Holds w b cs)(n:Nat):Holds (w.drewN n) b cs:=h
theorem Holds.alloc (h:Holds w b cs)(o:Obj):Holds (w.alloc o) b cs:=by
 have hl:=h.lt
 obtain⟨T,h⟩:=h
 exact⟨T,(Below.heap_alloc w o b hl).trans h⟩
theorem Holds.set_ (h:Holds w b cs)(i:Nat)(u:Value):Holds (w.setCell ⟨b,i,none⟩ u) b (cs.setIfInBounds i u):=by
 obtain⟨T,h⟩:=h
 refine⟨T,?_⟩
 simp[World.setCell,Array.getElem?_modify,h]
theorem Holds.far (h:Holds w b cs){p:Addr}(hp:b≠p.block)(u:Value):Holds (w.setCell p u) b cs:=by
 obtain⟨T,h⟩:=h
 exact⟨T,(Below.heap_setCell w p u b hp).trans h⟩
theorem Holds.row (h:Holds w b cs)(cs':Array Value):Holds (w.setRow b cs') b cs':=by
 obtain⟨T,h⟩:=h
 exact⟨T,setRow_heap w b _ _ _ _ h⟩
theorem Holds.rowFar (h:Holds w b cs){g:Nat}(hg:b≠g)(cs':Array Value):Holds (w.setRow g cs') b cs:=by
 obtain⟨T,h⟩:=h
 exact⟨T,(setRow_other w g b cs' hg).trans h⟩
theorem Holds.below {B:Nat}(h:Holds w b cs)(hb:Below B w w')(hB:b<B):Holds w' b cs:=by
 obtain⟨T,h⟩:=h
 exact⟨T,(hb.block b hB).trans h⟩
end
theorem yai {P:Program}{ops:Array Oper}{rest:List Oper}{o:Oper}{a:Act}{w:World}{Q:Exit→Act→World→Prop}(hgd:o.guard=none)(ty:TypeId)(x y:Operand)(ho:o.op=.store ty x y)
 (g:Nat) (cells:Array Value) (hx:a.eval x=.pointer (some ⟨g,0,none⟩)) (hy:a.eval y=.agg cells)
 (old:Array Value) (hg:Holds w g old) (hi:(P.info? ty).map (·.size)=some cells.size)
 (hold:old.size=cells.size) (h1:cells.all (·.oneCell')=true)
 (h :∀w',w'=w.setRow g cells→wpList P ops Q rest (a.put o.dst undef) w'):wpList P ops Q (o::rest) a w:=by
 obtain⟨T,hg⟩:=hg
 exact wpList_store_row hgd ty x y ho g cells hx hy T old hg hi hold h1 (h _ rfl)
theorem yb5 {B:Nat}{a w:World}(h:Below B a w)(n:Nat):Below B a (w.drewN n):=⟨h.os,h.tape,h.output,h.size,h.block⟩
end
section
open Go.RowKit
def u32s (ws:List Nat):List Value:=ws.map fun (x:Nat)=>Value.int .u32 (x:Int)
def wRow (ws:List Nat):Array Value:=(u32s ws++List.replicate (64-ws.length) (Value.int .u32 0)).toArray
theorem yio (ws:List Nat)(i:Nat)(h:i<ws.length):(wRow ws)[i]? = some (.int .u32 (ws.getD i 0:Nat)):=by
 unfold wRow u32s
 simp[List.getElem?_append,h]
theorem yeo (ws:List Nat)(h:ws.length<64):(wRow ws)[ws.length]? = some (.int .u32 0):=by
 unfold wRow u32s
 simp[List.getElem?_append,List.getElem?_replicate,h]
 omega
theorem yen (ws:List Nat)(h:ws.length≤64):(wRow ws).size=64:=by
 unfold wRow u32s
 simp;omega
theorem ymd (ws:List Nat):(wRow ws).all (·.oneCell')=true:=by
 unfold wRow u32s
 simp[Value.oneCell']
theorem yfs (ws:List Nat)(h:ws.length<64)(x:Nat):(wRow ws).setIfInBounds ws.length (Value.int .u32 (x:Int))=wRow (ws ++ [x]):=by
 unfold wRow u32s
 have e:64-ws.length=(64-(ws.length+1))+1:=by omega
 simp only[List.length_append,List.length_singleton]
 rw[e]
 simp only[List.replicate_succ,List.setIfInBounds_toArray]
 rw[List.set_append_right _ _ (by simp)]
 simp
theorem ye4 (s:ByteArray)(p:Nat)(h:p<s.size):s.data.toList.getD p 0=s[p]:=by
 have h':p<s.data.toList.length:=by simpa using h
 rw[List.getD_eq_getElem?_getD,List.getElem?_eq_getElem h',Option.getD_some];rfl
theorem ylr (x y k:Nat)(h:y<2 ^ k):x*2 ^ k ||| y=x*2 ^ k+y:=by
 rw[←Nat.shiftLeft_eq,←Nat.shiftLeft_add_eq_or_of_lt h]
theorem yr4 (a b:Nat)(ha:a<256)(hb:b<256):bits .or .u32 ((a:Int)*16777216) ((b:Int)*65536)=(a:Int)*16777216+(b:Int)*65536:=by
 have h:=ylr a (b*65536) 24 (by omega)
 have e1:(a:Int)*16777216=((a*2 ^ 24:Nat):Int):=by omega
 have e2:(b:Int)*65536=((b*65536:Nat):Int):=by omega
 rw[e1,e2,or32 (by omega) (by omega),h];omega
theorem yr3 (a b c:Nat)(ha:a<256)(hb:b<256)(hc:c<256):bits .or .u32 ((a:Int)*16777216+(b:Int)*65536) ((c:Int)*256)=(a:Int)*16777216+(b:Int)*65536+(c:Int)*256:=by
 have h:=ylr (a*256+b) (c*256) 16 (by omega)
 have e1:(a:Int)*16777216+(b:Int)*65536=(((a*256+b)*2 ^ 16:Nat):Int):=by omega
 have e2:(c:Int)*256=((c*256:Nat):Int):=by omega
 rw[e1,e2,or32 (by omega) (by omega),h];omega
theorem yr2 (a b c d:Nat)(ha:a<256)(hb:b<256)(hc:c<256)(hd:d<256):
 bits .or .u32 ((a:Int)*16777216+(b:Int)*65536+(c:Int)*256) (d:Int)=(a:Int)*16777216+(b:Int)*65536+(c:Int)*256+(d:Int):=by
 have h:=ylr ((a*256+b)*256+c) d 8 (by omega)
 have e1:(a:Int)*16777216+(b:Int)*65536+(c:Int)*256=((((a*256+b)*256+c)*2 ^ 8:Nat):Int):=by omega
 rw[e1,or32 (by omega) (by omega),h];omega
theorem u32_in (n:Int)(h:0≤n)(h2:n<4294967296):IntKind.u32.wrap n=n:=IntWalk.u32_in n ⟨h,by omega⟩
theorem ybi (x n:Nat)(w:World)(hx:x<4294967296)(h1:1≤n)(h2:n≤31):
 Calls Tryz.prog 200 #[.int .u32 x,.int .i64 n] w fun e w'=>e=.returned (.int .u32 (Sha.rot n x))∧w'=w:=
 (ynb x n w hx h1 h2).mono fun _ _ ⟨he,hw⟩=>⟨he,hw.symm⟩
theorem add32 (a b:Nat):IntKind.u32.wrap ((a:Int)+(b:Int))=((Sha.add a b:Nat):Int):=by
 rw[IntKind.wrap_u32];unfold Sha.add;omega
theorem ymw (Y:Nat)(hY:Y<4294967296):bits .xor .u32 ((Sha.rot 17 Y ^^^ Sha.rot 19 Y:Nat):Int) ((Y:Int) / 1024)=((Sha.lit1 Y:Nat):Int):=by
 have e:(Y:Int) / 1024=((Y / 1024:Nat):Int):=by omega
 rw[e,xor32 (Sha.ydc (Sha.ybu 17 Y (by omega) (by omega) hY) (Sha.ybu 19 Y (by omega) (by omega) hY)) (by omega)]
 rfl
theorem ymx (X:Nat)(hX:X<4294967296):bits .xor .u32 ((Sha.rot 7 X ^^^ Sha.rot 18 X:Nat):Int) ((X:Int) / 8)=((Sha.lit0 X:Nat):Int):=by
 have e:(X:Int) / 8=((X / 8:Nat):Int):=by omega
 rw[e,xor32 (Sha.ydc (Sha.ybu 7 X (by omega) (by omega) hX) (Sha.ybu 18 X (by omega) (by omega) hX)) (by omega)]
 rfl
theorem yne (s:ByteArray)(w:World)(hs:s.size=64):
 Calls Tryz.prog 199 #[.string s] w fun e w'=>e=.returned (.agg (wRow (Sha.words s.data.toList 64)))∧Below w.heap.size w w':=by
 have Hs:=yh hs
 have hs1:s.size≤64:=by omega
 have hs2:64≤s.size:=by omega
 clear hs
 go_enter Tryz.func199,Tryz.ntmps199
 go_wp2_with fail
 go_loopw [8] (fun i wr =>∃t:Nat,t≤16∧i=.int .i64 t∧Holds wr w.heap.size (wRow [])∧Holds wr (w.heap.size+1) (wRow (Sha.words s.data.toList t))∧Below w.heap.size w wr) (fun i _=>16-(intOf i).toNat)
 case atStart=>exact⟨0,by omega,rfl,(Holds.new2 rfl (by rfl)).alloc _,Holds.new2 (by simp) (by rfl),((Below.refl _ _).alloc (Nat.le_refl _) _).alloc (by simp) _⟩
 case round=>
  obtain⟨t,ht,rfl,h0,h1,hb⟩:=hrel
  by_cases hlt:t<16
  · have hcell:wr.cell? ⟨w.heap.size+1,t,none⟩=some (.int .u32 0):=by
     have hlen:=Sha.ybk s.data.toList t
     have:=h1.cell (Sha.words s.data.toList t).length
     rw[yeo _ (by omega),hlen]at this
     exact this
    have hfree:=h1.free t
    have hs3:4*t+3<s.size:=by omega
    have hj0:4*(t:Int)<(s.size:Int):=by omega
    have hj1:4*(t:Int)+1<(s.size:Int):=by omega
    have hj2:4*(t:Int)+2<(s.size:Int):=by omega
    have hj3:4*(t:Int)+3<(s.size:Int):=by omega
    have hw0:IntKind.i64.wrap (4*(t:Int))=4*(t:Int):=IntWalk.i64_in _ (by omega)
    have hw1:IntKind.i64.wrap (4*(t:Int)+1)=4*(t:Int)+1:=IntWalk.i64_in _ (by omega)
    have hw2:IntKind.i64.wrap (4*(t:Int)+2)=4*(t:Int)+2:=IntWalk.i64_in _ (by omega)
    have hw3:IntKind.i64.wrap (4*(t:Int)+3)=4*(t:Int)+3:=IntWalk.i64_in _ (by omega)
    have hp0:(0:Int)≤4*(t:Int):=by omega
    have hp1:(0:Int)≤4*(t:Int)+1:=by omega
    have hp2:(0:Int)≤4*(t:Int)+2:=by omega
    have hp3:(0:Int)≤4*(t:Int)+3:=by omega
    have hn0:(4*(t:Int)).toNat=4*t:=by omega
    have hn1:(4*(t:Int)+1).toNat=4*t+1:=by omega
    have hn2:(4*(t:Int)+2).toNat=4*t+2:=by omega
    have hn3:(4*(t:Int)+3).toNat=4*t+3:=by omega
    have hp4:(0:Int)≤(t:Int):=by omega
    have hp5:(t:Int)<64:=by omega
    have hp6:t<64:=by omega
    have hb0:=s[4*t].toNat_lt
    have hb1:=s[4*t+1].toNat_lt
    have hb2:=s[4*t+2].toNat_lt
    have hb3:=s[4*t+3].toNat_lt
    have hu0:IntKind.u32.wrap ((s[4*t].toNat:Nat):Int)=(s[4*t].toNat:Int):=u32_in _ (by omega) (by omega)
    have hu1:IntKind.u32.wrap ((s[4*t+1].toNat:Nat):Int)=(s[4*t+1].toNat:Int):=u32_in _ (by omega) (by omega)
    have hu2:IntKind.u32.wrap ((s[4*t+2].toNat:Nat):Int)=(s[4*t+2].toNat:Int):=u32_in _ (by omega) (by omega)
    have hu3:IntKind.u32.wrap ((s[4*t+3].toNat:Nat):Int)=(s[4*t+3].toNat:Int):=u32_in _ (by omega) (by omega)
    have hv0:IntKind.u32.wrap ((s[4*t].toNat:Int)*16777216)=(s[4*t].toNat:Int)*16777216:=u32_in _ (by omega) (by omega)
    have hv1:IntKind.u32.wrap ((s[4*t+1].toNat:Int)*65536)=(s[4*t+1].toNat:Int)*65536:=u32_in _ (by omega) (by omega)
    have hv2:IntKind.u32.wrap ((s[4*t+2].toNat:Int)*256)=(s[4*t+2].toNat:Int)*256:=u32_in _ (by omega) (by omega)
    have ho1:=yr4 _ _ hb0 hb1
    have ho2:=yr3 _ _ _ hb0 hb1 hb2
    have ho3:=yr2 _ _ _ _ hb0 hb1 hb2 hb3
    have hwd:(s[4*t].toNat:Int)*16777216+(s[4*t+1].toNat:Int)*65536+(s[4*t+2].toNat:Int)*256+(s[4*t+3].toNat:Int)=((Sha.word s.data.toList t:Nat):Int):=by
     unfold Sha.word
     rw[ye4 s (4*t) (by omega),ye4 s (4*t+1) (by omega),ye4 s (4*t+2) (by omega),ye4 s (4*t+3) (by omega)]
     omega
    have Hwd:=yh hwd
    clear hwd
    have H0:=yh h0
    have H1:=yh h1
    clear h0 h1
    go_wp2_with fail
    go_still_tail 31,(by kernel_rfl)
    change wpList _ _ _ _ _ wr.drew
    obtain⟨w2,hw2'⟩ :∃w2,w2=wr.drew:=⟨_,rfl⟩
    rw[←hw2']
    have hcell2:w2.cell? ⟨w.heap.size+1,t,none⟩=some (.int .u32 0):=by rw[hw2'];exact hcell
    have hfree2:w2.frozen? ⟨w.heap.size+1,t,none⟩=false:=by rw[hw2'];exact hfree
    have HW2:=yh hw2'
    clear hw2' hcell hfree
    go_wp2
    rw[Hwd.out]
    have hh0:Holds w2 w.heap.size (wRow []):=by rw[HW2.out];exact H0.out.drew
    have hh1:Holds w2 (w.heap.size+1) (wRow (Sha.words s.data.toList t)):=by rw[HW2.out];exact H1.out.drew
    have hbb:Below w.heap.size w w2:=by rw[HW2.out];exact hb.drew
    refine⟨⟨t+1,by omega,by go_num,hh0.far (by simp) _,?_,hbb.setCell (by simp) _⟩,by simp[intOf];omega⟩
    have hset:=hh1.set_ t (.int .u32 (Sha.word s.data.toList t:Nat))
    have hlen:=Sha.ybk s.data.toList t
    have hrow:=yfs (Sha.words s.data.toList t) (by omega) (Sha.word s.data.toList t)
    rw[hlen]at hrow
    rw[hrow]at hset
    rw[Sha.words,if_pos hlt]
    exact hset
  · have ht16:16≤t:=by omega
    have H0:=yh h0
    have H1:=yh h1
    clear h0 h1
    go_wp2_with fail
    go_loopw [5] (fun i wr =>∃t:Nat,16≤t∧t≤64∧i=.int .i64 t∧Holds wr w.heap.size (wRow [])∧Holds wr (w.heap.size+1) (wRow (Sha.words s.data.toList t))∧Below w.heap.size w wr) (fun i _=>64-(intOf i).toNat)
    case atStart=>exact⟨16,by omega,by omega,rfl,H0.out,(show 16=t by omega) ▸ H1.out,hb⟩
    case round=>
     clear hb H0 H1 ht16
     obtain⟨t,ht16,ht,rfl,h0,h1,hb⟩:=hrel
     by_cases hlt:t<64
     · have hat :∀k,1≤k→k≤16→∃X:Nat,X<4294967296∧wr.cell? ⟨w.heap.size+1,t-k,none⟩=some (.int .u32 (X:Nat))∧X=(Sha.words s.data.toList t).getD (t-k) 0:=by
        intro k hk1 hk2
        have hlen:=Sha.ybk s.data.toList t
        have h:=h1.cell (t-k)
        rw[yio _ _ (by rw[hlen];omega)]at h
        refine⟨_,?_,h,rfl⟩
        have hlt2:t-k<(Sha.words s.data.toList t).length:=by rw[hlen];omega
        rw[List.getD_eq_getElem?_getD,List.getElem?_eq_getElem hlt2,Option.getD_some]
        exact Sha.ymb _ _ _ (List.getElem_mem hlt2)
       obtain⟨X,hX,cX,eX⟩:=hat 15 (by omega) (by omega)
       obtain⟨Y,hY,cY,eY⟩:=hat 2 (by omega) (by omega)
       obtain⟨A,hA,cA,eA⟩:=hat 7 (by omega) (by omega)
       obtain⟨C,hC,cC,eC⟩:=hat 16 (by omega) (by omega)
       have hnext:Sha.next (Sha.words s.data.toList t)=Sha.add (Sha.add (Sha.add (Sha.lit1 Y) A) (Sha.lit0 X)) C:=by
        unfold Sha.next
        rw[Sha.ybk,←eX,←eY,←eA,←eC]
       have Hnext:=yh hnext
       have hcell:wr.cell? ⟨w.heap.size+1,t,none⟩=some (.int .u32 0):=by
        have hlen:=Sha.ybk s.data.toList t
        have:=h1.cell (Sha.words s.data.toList t).length
        rw[yeo _ (by omega),hlen]at this
        exact this
       have hfree:=h1.free t
       clear hat eX eY eA eC hnext
       have hw15:IntKind.i64.wrap ((t:Int)-15)=(t:Int)-15:=IntWalk.i64_in _ (by omega)
       have hw2:IntKind.i64.wrap ((t:Int)-2)=(t:Int)-2:=IntWalk.i64_in _ (by omega)
       have hw7:IntKind.i64.wrap ((t:Int)-7)=(t:Int)-7:=IntWalk.i64_in _ (by omega)
       have hw16:IntKind.i64.wrap ((t:Int)-16)=(t:Int)-16:=IntWalk.i64_in _ (by omega)
       have hp15:(0:Int)≤(t:Int)-15:=by omega
       have hp2:(0:Int)≤(t:Int)-2:=by omega
       have hp7:(0:Int)≤(t:Int)-7:=by omega
       have hp16:(0:Int)≤(t:Int)-16:=by omega
       have hq15:(t:Int)-15<64:=by omega
       have hq2:(t:Int)-2<64:=by omega
       have hq7:(t:Int)-7<64:=by omega
       have hq16:(t:Int)-16<64:=by omega
       have hn15:((t:Int)-15).toNat=t-15:=by omega
       have hn2:((t:Int)-2).toNat=t-2:=by omega
       have hn7:((t:Int)-7).toNat=t-7:=by omega
       have hn16:((t:Int)-16).toNat=t-16:=by omega
       have hp:(0:Int)≤(t:Int):=by omega
       have hr15:(15:Int)≤(t:Int):=by omega
       have hr2:(2:Int)≤(t:Int):=by omega
       have hr7:(7:Int)≤(t:Int):=by omega
       have hr16:(16:Int)≤(t:Int):=by omega
       have hq:(t:Int)<64:=by omega
       have H0:=yh h0
       have H1:=yh h1
       clear h0 h1
       go_wp2_with fail
       go_quiet (fail)
       obtain⟨wq,hwq⟩ :∃wq,wq=wr.drewN nq:=⟨_,rfl⟩
       rw[←hwq]
       have cX:=(show wq.cell? ⟨w.heap.size+1,t-15,none⟩=some (.int .u32 (X:Nat)) from by rw[hwq];exact cX)
       have cA:=(show wq.cell? ⟨w.heap.size+1,t-7,none⟩=some (.int .u32 (A:Nat)) from by rw[hwq];exact cA)
       have cC:=(show wq.cell? ⟨w.heap.size+1,t-16,none⟩=some (.int .u32 (C:Nat)) from by rw[hwq];exact cC)
       have hcell:=(show wq.cell? ⟨w.heap.size+1,t,none⟩=some (.int .u32 0) from by rw[hwq];exact hcell)
       have hfree:=(show wq.frozen? ⟨w.heap.size+1,t,none⟩=false from by rw[hwq];exact hfree)
       have H0:=(show Holds wq _ _ from by rw[hwq];exact H0.out)
       have H1:=(show Holds wq _ _ from by rw[hwq];exact H1.out)
       have hb:=(show Below w.heap.size w wq from by rw[hwq];exact yb5 hb _)
       have H0:=yh H0
       have H1:=yh H1
       clear hwq
       have t17:=ybi Y 17 wq.drew hY (by omega) (by omega)
       have t19:=ybi Y 19 wq.drew hY (by omega) (by omega)
       have t7:=ybi X 7 wq.drew hX (by omega) (by omega)
       have t18:=ybi X 18 wq.drew hX (by omega) (by omega)
       have T17:=yh t17
       have T19:=yh t19
       have T7:=yh t7
       have T18:=yh t18
       clear t17 t19 t7 t18
       have hx1:=xor32 (Sha.ybu 17 Y (by omega) (by omega) hY) (Sha.ybu 19 Y (by omega) (by omega) hY)
       have hx2:=ymw Y hY
       have hx3:=xor32 (Sha.ybu 7 X (by omega) (by omega) hX) (Sha.ybu 18 X (by omega) (by omega) hX)
       have hx4:=ymx X hX
       have ha1:=add32 (Sha.lit1 Y) A
       have ha2:=add32 (Sha.add (Sha.lit1 Y) A) (Sha.lit0 X)
       have ha3:=add32 (Sha.add (Sha.add (Sha.lit1 Y) A) (Sha.lit0 X)) C
       go_wp2_with fail
       refine wp_region_still_tail 29 (by kernel_rfl) (by kernel_rfl) ?_
       simp only[List.take_succ_cons,List.take_zero,List.drop_succ_cons,List.drop_zero]
       repeat still_step
       still_call T17.out
       repeat still_step
       still_call T19.out
       repeat still_step
       still_call T7.out
       repeat still_step
       still_call T18.out
       repeat still_step
       refine wpStill_nil ?_
       change wpList _ _ _ _ _ wq.drew
       obtain⟨w2,hww⟩ :∃w2,w2=wq.drew:=⟨_,rfl⟩
       rw[←hww]
       have hcell2:w2.cell? ⟨w.heap.size+1,t,none⟩=some (.int .u32 0):=by rw[hww];exact hcell
       have hfree2:w2.frozen? ⟨w.heap.size+1,t,none⟩=false:=by rw[hww];exact hfree
       have HW2:=yh hww
       clear hww hcell hfree
       go_wp2
       have hh0:Holds w2 w.heap.size (wRow []):=by rw[HW2.out];exact H0.out.drew
       have hh1:Holds w2 (w.heap.size+1) (wRow (Sha.words s.data.toList t)):=by rw[HW2.out];exact H1.out.drew
       have hbb:Below w.heap.size w w2:=by rw[HW2.out];exact hb.drew
       refine⟨⟨t+1,by omega,by omega,by go_num,hh0.far (by simp) _,?_,hbb.setCell (by simp) _⟩,by simp[intOf];omega⟩
       have hset:=hh1.set_ t (.int .u32 (Sha.next (Sha.words s.data.toList t):Nat))
       have hlen:=Sha.ybk s.data.toList t
       have hrow:=yfs (Sha.words s.data.toList t) (by omega) (Sha.next (Sha.words s.data.toList t))
       rw[hlen]at hrow
       rw[hrow]at hset
       rw[Sha.words,if_neg (by omega)]
       rw[Hnext.out]at hset
       rw[Hnext.out]
       exact hset
     · have ht64:64≤t:=by omega
       have hlen:=Sha.ybk s.data.toList t
       obtain⟨T0,hg0⟩:=h0
       obtain⟨T1,hg1⟩:=h1
       have hz0:=yen [] (by simp)
       have hz1:=yen (Sha.words s.data.toList t) (by omega)
       have e64:t=64:=by omega
       have i78:(Tryz.prog.info? 238).map (·.size)=some 64:=by kernel_rfl
       have I0:=yh (i78.trans (congrArg some hz0.symm))
       have I1:=yh (i78.trans (congrArg some hz1.symm))
       have G0:=yh hg0
       have G1:=yh hg1
       have E64:=yh e64
       have Hold:=yh (hz0.trans hz1.symm)
       have hbr:Below w.heap.size w (wr.setRow w.heap.size (wRow (Sha.words s.data.toList t))):=below_setRow hb (Nat.le_refl _) _
       have Hrow:=yh (setRow_heap wr w.heap.size _ (wRow (Sha.words s.data.toList t)) T0 (0,0) hg0)
       clear hg0 hg1 hz0 hz1 e64 i78 hlen
       go_wp2_with (first
        | (refine wpList_load_row rfl 238 (.tmp 3) rfl (w.heap.size+1) rfl T1 _ (0,0) _ G1.out Tryz.underlying238 rfl I1.out ?_)
        | (refine wpList_store_row rfl 238 (.tmp 2) (.tmp 84) rfl w.heap.size _ rfl rfl T0 _ G0.out I1.out Hold.out (ymd _) ?_))
       rw[←E64.out]
       exact bodyPost_ret (results_cell_row rfl _ _ w.heap.size T0 _ (0,0) _ rfl Hrow.out Tryz.underlying238 rfl I1.out) rfl ⟨rfl,hbr⟩
end
section
open Go.RowKit
def st8 (s:Sha.St):Array Value:=#[.int .u32 (s.a:Nat),.int .u32 (s.b:Nat),.int .u32 (s.c:Nat),.int .u32 (s.d:Nat),.int .u32 (s.e:Nat),.int .u32 (s.f:Nat),.int .u32 (s.g:Nat),.int .u32 (s.h:Nat)]
theorem ygj (s:Sha.St):(st8 s).all (·.oneCell')=true:=by simp[st8,Value.oneCell']
def Tab (w:World):Prop :=∀t,t<64→w.cell? ⟨2,t,none⟩=some (.int .u32 (Sha.kk.getD t 0:Nat))
theorem Tab.pos {w:World}(h:Tab w):2<w.heap.size:=block_lt_of_cell (h 0 (by decide))
theorem Tab.below {w w':World}{B:Nat}(h:Tab w)(hb:Below B w w')(hB:2<B):Tab w':=fun t ht=>(hb.cell (p:=⟨2,t,none⟩) hB).trans (h t ht)
theorem ytn (e:Nat)(he:e<4294967296):bits .xor .u32 ((Sha.rot 6 e ^^^ Sha.rot 11 e:Nat):Int) ((Sha.rot 25 e:Nat):Int)=((Sha.big1 e:Nat):Int):=
 xor32 (Sha.ydc (Sha.ybu 6 e (by omega) (by omega) he) (Sha.ybu 11 e (by omega) (by omega) he)) (Sha.ybu 25 e (by omega) (by omega) he)
theorem yto (e:Nat)(he:e<4294967296):bits .xor .u32 ((Sha.rot 2 e ^^^ Sha.rot 13 e:Nat):Int) ((Sha.rot 22 e:Nat):Int)=((Sha.big0 e:Nat):Int):=
 xor32 (Sha.ydc (Sha.ybu 2 e (by omega) (by omega) he) (Sha.ybu 13 e (by omega) (by omega) he)) (Sha.ybu 22 e (by omega) (by omega) he)
theorem not32 (e:Nat)(he:e<4294967296):bits .xor .u32 (if IntKind.u32.signed=true then -1 else IntKind.u32.max) (e:Int)=((4294967295-e:Nat):Int):=by
 have h1:(if IntKind.u32.signed=true then -1 else IntKind.u32.max:Int)=4294967295:=by decide
 rw[h1]
 show IntKind.u32.wrap ((BitVec.ofInt 32 4294967295 ^^^ BitVec.ofInt 32 (e:Int)).toNat:Int)=_
 have h2:BitVec.ofInt 32 4294967295=BitVec.allOnes 32:=by decide
 rw[h2,BitVec.allOnes_xor,BitVec.toNat_not,ya8 e he,wrap32u _ (by omega)]
theorem ysj (st:Sha.St)(s:ByteArray)(w:World)(hT:Tab w)(hst:st.ok)(hs:s.size=64):
 Calls Tryz.prog 186 #[.agg (st8 st),.string s] w fun e w'=>e=.returned (.agg (st8 (Sha.step st s.data.toList)))∧Below w.heap.size w w':=by
 have HT:=yh hT
 have hpos:=hT.pos
 have HS:=yh hs
 have hok:=fun W n=>Sha.ylc (s:=st) W hst n
 have HOK:=yh hok
 clear hT hs hok hst
 obtain⟨W,hW⟩ :∃W,W=Sha.words s.data.toList 64:=⟨_,rfl⟩
 have HW:=yh hW
 have i78:(Tryz.prog.info? 238).map (·.size)=some (wRow W).size:=by
  rw[yen W (by rw[hW,Sha.ybk];omega)];kernel_rfl
 have I78:=yh i78
 have hz:=yen W (by rw[hW,Sha.ybk];omega)
 have HZ:=yh hz
 clear hW i78 hz
 go_enter Tryz.func186,Tryz.ntmps186
 unfold st8
 go_wp2_with fail
 refine(yne s _ HS.out).mono ?_
 rintro e w1 ⟨rfl,hb1⟩
 rw[←HW.out]
 go_wp2_with (refine yai rfl 238 (.tmp 5) (.tmp 18) rfl w1.heap.size _ rfl rfl _ (Holds.new _ _ _) I78.out (by rw[HZ.out];rfl) (ymd _) ?_;intro wA hwA)
 have hB0:Below w.heap.size w w1:=(((Below.refl _ _).alloc (Nat.le_refl _) _).alloc (by simp) _).trans (hb1.mono (by simp;omega))
 have hBA:Below w.heap.size w wA:=by rw[hwA];exact below_setRow (hB0.alloc hB0.size _) hB0.size _
 have hlt1:w.heap.size+2≤w1.heap.size:=by have:=hb1.size;simp at this;omega
 have hN:Holds wA w.heap.size (st8 st):=by
  rw[hwA]
  exact((((Holds.new2 rfl rfl).alloc _).below hb1 (by simp;omega)).alloc _).rowFar (by omega) _
 have hR:Holds wA (w.heap.size+1) (st8 ⟨0,0,0,0,0,0,0,0⟩):=by
  rw[hwA]
  exact(((Holds.new2 (by simp) rfl).below hb1 (by simp)).alloc _).rowFar (by omega) _
 have hWr:Holds wA w1.heap.size (wRow W):=by
  rw[hwA]
  exact(Holds.new _ _ _).row _
 clear hwA
 obtain⟨s0,s1,s2,s3,s4,s5,s6,s7⟩:=st
 have c0:=hN.cell 0
 have c1:=hN.cell 1
 have c2:=hN.cell 2
 have c3:=hN.cell 3
 have c4:=hN.cell 4
 have c5:=hN.cell 5
 have c6:=hN.cell 6
 have c7:=hN.cell 7
 simp[st8]at c0 c1 c2 c3 c4 c5 c6 c7
 have HN:=yh hN
 have HR:=yh hR
 have HWr:=yh hWr
 clear hN hR hWr hb1 hB0
 go_quiet (fail)
 obtain⟨wB,hwB⟩ :∃wB,wB=wA.drewN nq:=⟨_,rfl⟩
 rw[←hwB]
 have HN:=yh (show Holds wB _ _ from by rw[hwB];exact HN.out)
 have HR:=yh (show Holds wB _ _ from by rw[hwB];exact HR.out)
 have HWr:=yh (show Holds wB _ _ from by rw[hwB];exact HWr.out)
 have hBB:=(show Below w.heap.size w wB from by rw[hwB];exact yb5 hBA _)
 clear hwB hBA c0 c1 c2 c3 c4 c5 c6 c7
 go_wp2_with fail
 go_loopw [6,7,8,9,10,11,12,13,35] (fun a b c d e f g h i wr =>∃t:Nat,t≤64∧i=.int .i64 t∧
  a=.int .u32 ((Sha.rnds ⟨s0,s1,s2,s3,s4,s5,s6,s7⟩ W t).a:Nat)∧b=.int .u32 ((Sha.rnds ⟨s0,s1,s2,s3,s4,s5,s6,s7⟩ W t).b:Nat)∧c=.int .u32 ((Sha.rnds ⟨s0,s1,s2,s3,s4,s5,s6,s7⟩ W t).c:Nat)∧d=.int .u32 ((Sha.rnds ⟨s0,s1,s2,s3,s4,s5,s6,s7⟩ W t).d:Nat)∧
  e=.int .u32 ((Sha.rnds ⟨s0,s1,s2,s3,s4,s5,s6,s7⟩ W t).e:Nat)∧f=.int .u32 ((Sha.rnds ⟨s0,s1,s2,s3,s4,s5,s6,s7⟩ W t).f:Nat)∧g=.int .u32 ((Sha.rnds ⟨s0,s1,s2,s3,s4,s5,s6,s7⟩ W t).g:Nat)∧h=.int .u32 ((Sha.rnds ⟨s0,s1,s2,s3,s4,s5,s6,s7⟩ W t).h:Nat)∧
  Holds wr w.heap.size (st8 ⟨s0,s1,s2,s3,s4,s5,s6,s7⟩)∧Holds wr (w.heap.size+1) (st8 ⟨0,0,0,0,0,0,0,0⟩)∧Holds wr w1.heap.size (wRow W)∧Below w.heap.size w wr) (fun _ _ _ _ _ _ _ _ i _=>64-(intOf i).toNat)
 case atStart=>exact⟨0,by omega,rfl,rfl,rfl,rfl,rfl,rfl,rfl,rfl,rfl,HN.out,HR.out,HWr.out,hBB⟩
 case round=>
  clear HN HR HWr hBB
  obtain⟨t,ht,rfl,rfl,rfl,rfl,rfl,rfl,rfl,rfl,rfl,hN,hR,hWr,hb⟩:=hrel
  by_cases hlt:t<64
  · have hk:=(HT.out.below hb hpos) t hlt
    have hwt:=hWr.cell t
    rw[yio W t (by rw[HW.out,Sha.ybk];exact hlt)]at hwt
    have hok:=HOK.out W t
    have HSt:Hid (Sha.rnds ⟨s0,s1,s2,s3,s4,s5,s6,s7⟩ W (t+1)=Sha.rnd (Sha.rnds ⟨s0,s1,s2,s3,s4,s5,s6,s7⟩ W t) (Sha.kk.getD t 0) (W.getD t 0)):=rfl
    rcases hst:Sha.rnds ⟨s0,s1,s2,s3,s4,s5,s6,s7⟩ W t with⟨a,b,c,d,e,f,g,h⟩
    rw[hst]at hok HSt
    simp only
    obtain⟨ha,hbb,hc,hd,he,hf,hg,hh⟩:=hok
    simp only at ha hbb hc hd he hf hg hh
    generalize Sha.kk.getD t 0=K at *
    generalize W.getD t 0=V at *
    have HN:=yh hN
    have HR:=yh hR
    have HWr:=yh hWr
    clear hN hR hWr hst
    have hp:(0:Int)≤(t:Int):=by omega
    have hq:(t:Int)<64:=by omega
    have t6 :∀W:World,Calls Tryz.prog 200 #[.int .u32 (e:Int),.int .i64 6] W fun r w'=>r=.returned (.int .u32 (Sha.rot 6 e:Nat))∧w'=W:=fun W=>ybi e 6 W he (by omega) (by omega)
    have t11 :∀W:World,Calls Tryz.prog 200 #[.int .u32 (e:Int),.int .i64 11] W fun r w'=>r=.returned (.int .u32 (Sha.rot 11 e:Nat))∧w'=W:=fun W=>ybi e 11 W he (by omega) (by omega)
    have t25 :∀W:World,Calls Tryz.prog 200 #[.int .u32 (e:Int),.int .i64 25] W fun r w'=>r=.returned (.int .u32 (Sha.rot 25 e:Nat))∧w'=W:=fun W=>ybi e 25 W he (by omega) (by omega)
    have T6:=yh t6
    have T11:=yh t11
    have T25:=yh t25
    clear t6 t11 t25
    have hx1:=xor32 (Sha.ybu 6 e (by omega) (by omega) he) (Sha.ybu 11 e (by omega) (by omega) he)
    have hx2:=ytn e he
    have ha1:=add32 h (Sha.big1 e)
    have hand:=and32 he hf
    have hnot:=not32 e he
    have hnand:=and32 (show 4294967295-e<4294967296 by omega) hg
    have hch:bits .xor .u32 ((e &&& f:Nat):Int) (((4294967295-e) &&& g:Nat):Int)=((Sha.ch e f g:Nat):Int):=xor32 (Sha.yc5 he) (Sha.yc5 (by omega))
    have ha2:=add32 (Sha.add h (Sha.big1 e)) (Sha.ch e f g)
    have ha3:=add32 (Sha.add (Sha.add h (Sha.big1 e)) (Sha.ch e f g)) K
    have ha4:=add32 (Sha.add (Sha.add (Sha.add h (Sha.big1 e)) (Sha.ch e f g)) K) V
    go_wp2_with fail
    go_quiet ((first
     | (with_reducible exact Calls.quiet_of_same (T6.out _))
     | (with_reducible exact Calls.quiet_of_same (T11.out _))
     | (with_reducible exact Calls.quiet_of_same (T25.out _))))
    obtain⟨wq,hwq⟩ :∃wq,wq=wr.drewN nq:=⟨_,rfl⟩
    rw[←hwq]
    have HN:=yh (show Holds wq _ _ from by rw[hwq];exact HN.out)
    have HR:=yh (show Holds wq _ _ from by rw[hwq];exact HR.out)
    have HWr:=yh (show Holds wq _ _ from by rw[hwq];exact HWr.out)
    have hb:=(show Below w.heap.size w wq from by rw[hwq];exact yb5 hb _)
    clear hwq hx1 hx2 ha1 ha2 ha3 ha4 hand hnot hnand hch hk hwt
    generalize hXX:Sha.add (Sha.add (Sha.add (Sha.add h (Sha.big1 e)) (Sha.ch e f g)) K) V=XX at *
    have t2 :∀W:World,Calls Tryz.prog 200 #[.int .u32 (a:Int),.int .i64 2] W fun r w'=>r=.returned (.int .u32 (Sha.rot 2 a:Nat))∧w'=W:=fun W=>ybi a 2 W ha (by omega) (by omega)
    have t13 :∀W:World,Calls Tryz.prog 200 #[.int .u32 (a:Int),.int .i64 13] W fun r w'=>r=.returned (.int .u32 (Sha.rot 13 a:Nat))∧w'=W:=fun W=>ybi a 13 W ha (by omega) (by omega)
    have t22 :∀W:World,Calls Tryz.prog 200 #[.int .u32 (a:Int),.int .i64 22] W fun r w'=>r=.returned (.int .u32 (Sha.rot 22 a:Nat))∧w'=W:=fun W=>ybi a 22 W ha (by omega) (by omega)
    have T2:=yh t2
    have T13:=yh t13
    have T22:=yh t22
    have HXX:=yh hXX
    clear t2 t13 t22 hXX
    have hy1:=xor32 (Sha.ybu 2 a (by omega) (by omega) ha) (Sha.ybu 13 a (by omega) (by omega) ha)
    have hy2:=yto a ha
    have hy3:=and32 ha hbb
    have hy4:=and32 ha hc
    have hy5:=and32 hbb hc
    have hy6:=xor32 (Sha.yc5 (b:=b) ha) (Sha.yc5 (b:=c) ha)
    have hy7:bits .xor .u32 (((a &&& b) ^^^ (a &&& c):Nat):Int) ((b &&& c:Nat):Int)=((Sha.maj a b c:Nat):Int):=xor32 (Sha.ydc (Sha.yc5 ha) (Sha.yc5 ha)) (Sha.yc5 hbb)
    have hy8:=add32 (Sha.big0 a) (Sha.maj a b c)
    have hy9:=add32 d XX
    have hy10:=add32 XX (Sha.add (Sha.big0 a) (Sha.maj a b c))
    go_wp2_with fail
    refine(T2.out _).mono ?_
    rintro r w2 ⟨rfl,rfl⟩
    go_wp2_with fail
    refine(T13.out _).mono ?_
    rintro r w2 ⟨rfl,rfl⟩
    go_wp2_with fail
    refine(T22.out _).mono ?_
    rintro r w2 ⟨rfl,rfl⟩
    go_wp2_with fail
    refine⟨⟨t+1,by omega,by go_num,?_,?_,?_,?_,?_,?_,?_,?_,HN.out,HR.out,HWr.out,hb⟩,by simp[intOf];omega⟩
    all_goals (rw[HSt.out];simp only[Sha.rnd,HXX.out])
  · have e64:t=64:=by omega
    have hfin:Sha.step ⟨s0,s1,s2,s3,s4,s5,s6,s7⟩ s.data.toList=Sha.plus ⟨s0,s1,s2,s3,s4,s5,s6,s7⟩ (Sha.rnds ⟨s0,s1,s2,s3,s4,s5,s6,s7⟩ W t):=by
     unfold Sha.step;rw[HW.out,e64]
    have Hfin:=yh hfin
    clear hfin e64
    rcases hst:Sha.rnds ⟨s0,s1,s2,s3,s4,s5,s6,s7⟩ W t with⟨a,b,c,d,e,f,g,hh⟩
    rw[hst]at Hfin
    simp only
    clear hst
    have c0:=hN.cell 0
    have c1:=hN.cell 1
    have c2:=hN.cell 2
    have c3:=hN.cell 3
    have c4:=hN.cell 4
    have c5:=hN.cell 5
    have c6:=hN.cell 6
    have c7:=hN.cell 7
    simp[st8]at c0 c1 c2 c3 c4 c5 c6 c7
    have a0:=add32 s0 a
    have a1:=add32 s1 b
    have a2:=add32 s2 c
    have a3:=add32 s3 d
    have a4:=add32 s4 e
    have a5:=add32 s5 f
    have a6:=add32 s6 g
    have a7:=add32 s7 hh
    have HR:=yh hR
    have i58:(Tryz.prog.info? 225).map (·.size)=some 8:=by kernel_rfl
    have I58:=yh i58
    clear hR hN hWr i58
    go_wp2_with (refine yai rfl 225 (.tmp 4) (.tmp 130) rfl (w.heap.size+1) (st8 (Sha.plus ⟨s0,s1,s2,s3,s4,s5,s6,s7⟩ ⟨a,b,c,d,e,f,g,hh⟩)) rfl rfl _ HR.out I58.out rfl (ygj _) ?_;intro w5 hw5)
    rw[Hfin.out]
    obtain⟨T5,hT5⟩:=HR.out.row (st8 (Sha.plus ⟨s0,s1,s2,s3,s4,s5,s6,s7⟩ ⟨a,b,c,d,e,f,g,hh⟩))
    rw[←hw5]at hT5
    exact bodyPost_ret (results_cell_row rfl _ _ (w.heap.size+1) T5 _ (0,0) _ rfl hT5 Tryz.underlying225 rfl I58.out) rfl ⟨rfl,by rw[hw5];exact below_setRow hb (by omega) _⟩
end
section
open Go.RowKit
def bRow (bs:List UInt8):Array Value:=((bs++List.replicate (32-bs.length) (0:UInt8)).map fun (b:UInt8)=>Value.int .u8 (b.toNat:Int)).toArray
theorem ybb (bs:List UInt8)(h:bs.length≤32):(bRow bs).size=32:=by unfold bRow;simp;omega
theorem yhi (bs:List UInt8)(h:bs.length<32):(bRow bs)[bs.length]? = some (.int .u8 0):=by
 unfold bRow
 simp[List.getElem?_append,List.getElem?_replicate,h]
 omega
theorem ya1 (bs:List UInt8):(bRow bs).all (·.oneCell')=true:=by unfold bRow;simp[Value.oneCell']
theorem yjj (bs:List UInt8)(h:bs.length<32)(b:UInt8)(x:Int)(hx:x=b.toNat):(bRow bs).setIfInBounds bs.length (Value.int .u8 x)=bRow (bs ++ [b]):=by
 subst hx
 unfold bRow
 have e:32-bs.length=(32-(bs.length+1))+1:=by omega
 simp only[List.length_append,List.length_singleton]
 rw[e]
 simp only[List.replicate_succ,List.setIfInBounds_toArray,List.map_append,List.map_cons]
 rw[List.set_append_right _ _ (by simp)]
 simp
theorem ypn (s:Sha.St)(j:Nat)(h:j<8):(st8 s)[j]? = some (.int .u32 (Sha.at_ s j:Nat)):=by
 have:j=0∨j=1∨j=2∨j=3∨j=4∨j=5∨j=6∨j=7:=by omega
 rcases this with rfl|rfl|rfl|rfl|rfl|rfl|rfl|rfl <;> rfl
theorem at_lt {s:Sha.St}(h:s.ok)(j:Nat):Sha.at_ s j<4294967296:=by
 obtain⟨h0,h1,h2,h3,h4,h5,h6,h7⟩:=h
 match j with
 | 0=>exact h0
 | 1=>exact h1
 | 2=>exact h2
 | 3=>exact h3
 | 4=>exact h4
 | 5=>exact h5
 | 6=>exact h6
 | n+7=>exact h7
def firsts (s:Sha.St)(n:Nat):List UInt8:=(List.range n).map fun i=>UInt8.ofNat (Sha.at_ s (i / 4) / 2 ^ (24-8*(i%4))%256)
theorem yb0 (s:Sha.St)(n:Nat):(firsts s n).length=n:=by simp[firsts]
theorem yg9 (s:Sha.St)(n:Nat):firsts s (n+1)=firsts s n ++ [UInt8.ofNat (Sha.at_ s (n / 4) / 2 ^ (24-8*(n%4))%256)]:=by
 simp[firsts,List.range_succ]
theorem ypm (w:World):
 Calls Tryz.prog 185 #[] w fun e w'=>e=.returned (.agg (st8 Sha.start))∧Below w.heap.size w w':=by
 have i58:(Tryz.prog.info? 225).map (·.size)=some 8:=by kernel_rfl
 have I58:=yh i58
 clear i58
 go_enter Tryz.func185,Tryz.ntmps185
 go_wp2_with (refine yai rfl 225 (.tmp 0) (.tmp 1) rfl w.heap.size (st8 Sha.start) rfl rfl (st8 ⟨0,0,0,0,0,0,0,0⟩) (Holds.new2 rfl rfl) I58.out rfl (ygj _) ?_;intro w5 hw5)
 obtain⟨T5,hT5⟩:=(show Holds w5 w.heap.size (st8 Sha.start) from by rw[hw5];exact(Holds.new _ _ _).row _)
 exact bodyPost_ret (results_cell_row rfl _ _ w.heap.size T5 _ (0,0) _ rfl hT5 Tryz.underlying225 rfl I58.out) rfl ⟨rfl,by rw[hw5];exact below_setRow ((Below.refl _ _).alloc (Nat.le_refl _) _) (Nat.le_refl _) _⟩
theorem ytg (st:Sha.St)(w:World)(hok:st.ok):
 Calls Tryz.prog 188 #[.agg (st8 st)] w fun e w'=>e=.returned (.agg (bRow (Sha.bytes st)))∧Below w.heap.size w w':=by
 go_enter Tryz.func188,Tryz.ntmps188
 go_wp2_with fail
 go_loopw [5] (fun i wr =>∃t:Nat,t≤32∧i=.int .i64 t∧Holds wr w.heap.size (st8 st)∧Holds wr (w.heap.size+1) (bRow [])∧Holds wr (w.heap.size+2) (bRow (firsts st t))∧Below w.heap.size w wr) (fun i _=>32-(intOf i).toNat)
 case atStart=>exact⟨0,by omega,rfl,((Holds.new _ _ _).alloc _).alloc _,(Holds.new2 (by simp) rfl).alloc _,Holds.new2 (by simp) rfl,(((Below.refl _ _).alloc (Nat.le_refl _) _).alloc (by simp) _).alloc (by simp;omega) _⟩
 case round=>
  obtain⟨t,ht,rfl,hS,hR,hB,hb⟩:=hrel
  by_cases hlt:t<32
  · have hx:=hS.cell (t / 4)
    rw[ypn st (t / 4) (by omega)]at hx
    have hlt32:=at_lt hok (t / 4)
    have hcell:wr.cell? ⟨w.heap.size+2,t,none⟩=some (.int .u8 0):=by
     have:=hB.cell (firsts st t).length
     rw[yhi _ (by rw[yb0];exact hlt),yb0]at this
     exact this
    have hfree:=hB.free t
    have hp0:(t:Int) / 4<8:=by omega
    have hp1:(0:Int)≤(t:Int) / 4:=by omega
    have HS:=yh hS
    have HR:=yh hR
    have HB:=yh hB
    clear hS hR hB
    go_wp2_with fail
    have hval:((Sha.at_ st (t / 4):Nat):Int) / 2 ^ (24-8*(t%4))%256=((UInt8.ofNat (Sha.at_ st (t / 4) / 2 ^ (24-8*(t%4))%256)).toNat:Int):=by
     rw[UInt8.toNat_ofNat']
     simp
    have hset:=HB.out.set_ (firsts st t).length (Value.int .u8 (((Sha.at_ st (t / 4):Nat):Int) / 2 ^ (24-8*(t%4))%256))
    rw[yjj _ (by rw[yb0];exact hlt) _ _ hval,yb0,←yg9]at hset
    exact⟨⟨t+1,by omega,by go_num,HS.out.far (by simp;omega) _,HR.out.far (by simp) _,hset,hb.setCell (by simp;omega) _⟩,by simp[intOf];omega⟩
  · have e32:t=32:=by omega
    have hfin:bRow (firsts st t)=bRow (Sha.bytes st):=by rw[e32];rfl
    have i24:(Tryz.prog.info? 62).map (·.size)=some 32:=by kernel_rfl
    have hz:=ybb (firsts st t) (by rw[yb0];exact ht)
    have hz0:=ybb [] (by simp)
    have I24:=yh (i24.trans (congrArg some hz.symm))
    have Hold:=yh (hz0.trans hz.symm)
    have Hfin:=yh hfin
    obtain⟨T3,hT3⟩:=hB
    have G3:=yh hT3
    have HR:=yh hR
    clear hS hR hT3 e32 hfin i24 hz hz0
    go_wp2_with (first
     | (refine wpList_load_row rfl 62 (.tmp 3) rfl (w.heap.size+2) rfl T3 _ (0,0) _ G3.out Tryz.underlying62 rfl I24.out ?_)
     | (refine yai rfl 62 (.tmp 2) (.tmp 21) rfl (w.heap.size+1) (bRow (firsts st t)) rfl rfl _ HR.out I24.out Hold.out (ya1 _) ?_;intro w5 hw5))
    obtain⟨T5,hT5⟩:=(show Holds w5 (w.heap.size+1) (bRow (firsts st t)) from by rw[hw5];exact HR.out.row _)
    rw[←Hfin.out]
    exact bodyPost_ret (results_cell_row rfl _ _ (w.heap.size+1) T5 _ (0,0) _ rfl hT5 Tryz.underlying62 rfl I24.out) rfl ⟨rfl,by rw[hw5];exact below_setRow hb (by omega) _⟩
end
section
open Go.RowKit
def yRow (l:List UInt8):Array Value:=(l.map fun (b:UInt8)=>Value.int .u8 (b.toNat:Int)).toArray
def zs (n:Nat):List UInt8:=List.replicate n 0
theorem yf7 (n:Nat):(zs n).length=n:=by simp[zs]
theorem yo2 (n:Nat):zs (n+1)=zs n ++ [0]:=by simp[zs,List.replicate_succ']
theorem zs_add (n m:Nat):zs (n+m)=zs n++zs m:=by simp[zs]
theorem ydw (l:List UInt8):(yRow l).size=l.length:=by unfold yRow;simp
theorem yf8 (l:List UInt8)(i:Nat)(h:i<l.length):(yRow l)[i]? = some (.int .u8 ((l.map fun b=>(b.toNat:Int)).getD i 0)):=by
 unfold yRow;simp[List.getD,h]
theorem yik (a c:List UInt8)(b d:UInt8)(x:Int)(hx:x=d.toNat):(yRow (a++b::c)).setIfInBounds a.length (Value.int .u8 x)=yRow (a++d::c):=by
 subst hx
 unfold yRow
 simp only[List.setIfInBounds_toArray,List.map_append,List.map_cons]
 rw[List.set_append_right _ _ (by simp)]
 simp
theorem ydk (bk:List UInt8):strOfNums (bk.map fun b=>(b.toNat:Int))=⟨bk.toArray⟩:=by
 unfold strOfNums
 congr 2
 rw[List.map_map]
 conv=>rhs;rw[←List.map_id bk]
 apply List.map_congr_left
 intro b _
 simp
def lasts (n:Nat):Nat→List UInt8
 | 0=>[]
 | k+1=>UInt8.ofNat (n*8 / 2 ^ (8*k)%256)::lasts n k
theorem yq6 (n k:Nat):(lasts n k).length=k:=by
 induction k with
 | zero=>rfl
 | succ k ih=>simp[lasts,ih]
theorem yuu (n:Nat)(h:n≤1152921504606846975):lasts n 8=Sha.len8 n:=by
 have e:n*8%18446744073709551616=n*8:=Nat.mod_eq_of_lt (by omega)
 unfold Sha.len8
 rw[e]
 rfl
def padded (r:List UInt8)(n:Nat):List UInt8:=r++128::(List.replicate ((if r.length+9>64 then 128 else 64)-r.length-9) 0++Sha.len8 n)
theorem ydv {P:Program}{w w0:World}{B:Nat}{ops:Array Oper}{rest:List Oper}{o:Oper}{a:Act}{Q:Exit→Act→World→Prop}(hgd:o.guard=none)(d s:Operand)(dT sT elem:TypeId)
 (ho:o.op=.call { callee:=.builtin .copy,args:=#[d,s],argTypes:=#[dT,sT] }) (hu:P.underlying dT=some (.slice elem)) (hz:(P.info? elem).map (·.size)=some 1)
 (g dLen dCap:Nat) (t:ByteArray) (z:List UInt8) (hd:a.eval d=.slice (some ⟨g,0,none⟩) dLen dCap) (hs:a.eval s=.string t)
 (hg:Holds w g (yRow z)) (hb:Below B w0 w) (hB:B≤g) (hle:t.size≤dLen) (hfit:t.size≤z.length)
 (h :∀w',Holds w' g (yRow (t.data.toList++z.drop t.size))→Below B w0 w'→wpList P ops Q rest (a.put o.dst (goInt t.size)) w'):wpList P ops Q (o::rest) a w:=by
 obtain⟨T,hT⟩:=hg
 have hr:=Lib.run_copy_row_string (P:=P) w dT sT o.type elem g 0 dLen dCap t _ T hu hz hT hle (by rw[ydw];omega)
 refine wpList_plain hgd fun K hK=>?_
 unfold Oper.wp execOp
 simp only[ho,resolve,invoke,builtin,Sem.run_bind,Sem.run_pure,Result.andThen_ok,List.map_toArray,List.map_cons,List.map_nil,hd,hs,hr]
 refine hK _ _ (h _ ?_ (below_setRow hb hB _))
 have e:((yRow z).toList.take 0++Lib.byteCells t.data.toList++(yRow z).toList.drop (0+t.size)).toArray=yRow (t.data.toList++z.drop t.size):=by
  unfold yRow Lib.byteCells
  simp
 rw[e]
 exact⟨T,setRow_heap w g _ _ T _ hT⟩
theorem yur (n:Nat):madeCells (Value.int .u8 0).cells (n*1)=yRow (zs n):=by
 unfold yRow zs madeCells
 apply Array.ext
 · simp
 · intro i h1 h2
   simp[Value.cells,Nat.mod_one]
theorem make128 (W:World):(Instr.makeSlice 85 (.int .i64 128) (.int .i64 128)).run Tryz.prog W=.ok (.slice (some ⟨W.heap.size,0,none⟩) 128 128) (W.alloc (.cells (yRow (zs 128)) 5)):=by
 obtain⟨i0,hi,hz0,hz1,hz2⟩:=info_parts yip
 have hr:=run_make (P:=Tryz.prog) W 85 5 i0 _ Tryz.underlying85 hi hz0 .i64 .i64 128 128 (by omega) (by omega) (by rw[hz2];omega) (by omega)
 rw[hz1,show (128:Int).toNat=128 from rfl,yur]at hr
 exact hr
theorem ymp (r:ByteArray)(hr:r.size<64):(yRow (r.data.toList++(zs 128).drop r.size))[r.size]? = some (.int .u8 0):=by
 have e:r.data.toList.length=r.size:=rfl
 unfold yRow
 rw[List.getElem?_toArray,List.getElem?_map,List.getElem?_append_right (by omega),e,Nat.sub_self,List.getElem?_drop]
 unfold zs
 rw[List.getElem?_replicate,if_pos (by omega)]
 rfl
def padRow (r:ByteArray)(n E k:Nat):List UInt8:=(r.data.toList++128::zs (E-r.size-1-k))++(lasts n k++zs (128-E))
theorem yn4 (r:ByteArray)(n E k:Nat)(hE:r.size+9≤E)(hE2:E≤128)(hk:k≤8):(padRow r n E k).length=128:=by
 have e:r.data.toList.length=r.size:=rfl
 unfold padRow
 simp only[List.length_append,List.length_cons,yf7,yq6,e]
 omega
theorem yfj (r:ByteArray)(n E:Nat)(hE:r.size+9≤E)(hE2:E≤128):
 (yRow (r.data.toList++(zs 128).drop r.size)).setIfInBounds r.size (Value.int .u8 128)=yRow (padRow r n E 0):=by
 have e:r.data.toList.length=r.size:=rfl
 have h1:(zs 128).drop r.size=0::zs (127-r.size):=by
  unfold zs
  rw[List.drop_replicate,←List.replicate_succ]
  congr 1;omega
 have h2:zs (127-r.size)=zs (E-r.size-1)++zs (128-E):=by
  rw[←zs_add];congr 1;omega
 have h:=yik r.data.toList (zs (127-r.size)) 0 128 128 (by rfl)
 rw[e]at h
 rw[h1,h,h2]
 unfold padRow
 simp[lasts]
theorem yfk (r:ByteArray)(n E k:Nat)(hE:r.size+9≤E)(hk:k<8):
 padRow r n E k=(r.data.toList++128::zs (E-r.size-2-k))++0::(lasts n k++zs (128-E)):=by
 unfold padRow
 have e:E-r.size-1-k=(E-r.size-2-k)+1:=by omega
 rw[e,yo2]
 simp
theorem yh0 (r:ByteArray)(E k:Nat)(hE:r.size+9≤E)(hk:k<8):(r.data.toList++128::zs (E-r.size-2-k)).length=E-1-k:=by
 have e:r.data.toList.length=r.size:=rfl
 simp only[List.length_append,List.length_cons,yf7,e]
 omega
theorem ygx (r:ByteArray)(n E k:Nat)(hE:r.size+9≤E)(hk:k<8):(yRow (padRow r n E k))[E-1-k]? = some (.int .u8 0):=by
 rw[yfk r n E k hE hk,←yh0 r E k hE hk]
 unfold yRow
 simp
theorem ygw (r:ByteArray)(n E k:Nat)(hE:r.size+9≤E)(hk:k<8):
 (yRow (padRow r n E k)).setIfInBounds (E-1-k) (Value.int .u8 ((n:Int)*8 / 2 ^ (8*k)%256))=yRow (padRow r n E (k+1)):=by
 rw[yfk r n E k hE hk,←yh0 r E k hE hk,yik _ _ _ (UInt8.ofNat (n*8 / 2 ^ (8*k)%256))]
 · unfold padRow
   have e:E-r.size-1-(k+1)=E-r.size-2-k:=by omega
   rw[e]
   simp[lasts]
 · rw[UInt8.toNat_ofNat'];simp
theorem yh1 (r:ByteArray)(n E:Nat)(hE:r.size+9≤E)(hE2:E≤128)(hn:n≤1152921504606846975)(hc:E=if r.size+9>64 then 128 else 64):
 padRow r n E 8=padded r.data.toList n++zs (128-E)∧(padded r.data.toList n).length=E:=by
 have e:r.data.toList.length=r.size:=rfl
 have h:padRow r n E 8=padded r.data.toList n++zs (128-E):=by
  unfold padRow padded
  rw[yuu n hn,e,←hc,show E-r.size-1-8=E-r.size-9 from by omega]
  simp[zs]
 refine⟨h,?_⟩
 have hl:=yn4 r n E 8 hE hE2 (by omega)
 rw[h,List.length_append,yf7]at hl
 omega
theorem yn3 (r:ByteArray)(n:Nat)(w:World)(hr:r.size<64)(hn:n≤1152921504606846975):
 Calls Tryz.prog 187 #[.string r,.int .i64 n] w fun e w'=>e=.returned (S (padded r.data.toList n))∧Below w.heap.size w w':=by
 have hmk:=make128 w
 have hlr:r.data.toList.length=r.size:=rfl
 have Hlr:=yh hlr
 have i5:(Tryz.prog.info? 5).map (·.size)=some 1:=by kernel_rfl
 have I5:=yh i5
 have Hle:=yh (show r.size≤128 by omega)
 have Hfit:=yh (show r.size≤(zs 128).length by rw[yf7];omega)
 clear hlr i5
 by_cases hbig:64<r.size+9
 · have hE:r.size+9≤128:=by omega
   have hEc:128=if r.size+9>64 then 128 else 64:=by rw[if_pos (by omega)]
   have hd1:decide ((64:Int)<(r.size:Int)+9)=true:=by simp;omega
   have hr1:(r.size:Int)<128:=by omega
   have hr2:(0:Int)≤(r.size:Int):=by omega
   have HEc:=yh hEc
   clear hEc
   go_enter Tryz.func187,Tryz.ntmps187
   go_wp2_with (
    refine ydv (w0:=w) (B:=w.heap.size) rfl (.tmp 9) (.tmp 10) _ _ 5 rfl Tryz.underlying85 I5.out w.heap.size 128 128 r (zs 128) rfl rfl (Holds.new _ _ _) ((Below.refl _ _).alloc (Nat.le_refl _) _) (Nat.le_refl _) Hle.out Hfit.out ?_
    intro wA hA hbA
    have hcA:wA.cell? ⟨w.heap.size,r.size,none⟩=some (.int .u8 0):=(hA.cell r.size).trans (ymp r hr)
    have hfA:=hA.free r.size
    have HA:=yh hA
    clear hA)
   have hA2:=HA.out.set_ r.size (Value.int .u8 128)
   rw[yfj r n 128 hE (by omega)]at hA2
   go_loopw [20] (fun i wr =>∃k:Nat,k≤8∧i=.int .i64 k∧Holds wr w.heap.size (yRow (padRow r n 128 k))∧Below w.heap.size w wr) (fun i _=>8-(intOf i).toNat)
   case atStart=>exact⟨0,by omega,rfl,hA2,hbA.setCell (by simp) _⟩
   case round=>
    clear hA2 HA hcA hfA hbA
    obtain⟨k,hk,rfl,hH,hb⟩:=hrel
    by_cases hlt:k<8
    · have hcell:=(hH.cell (128-1-k)).trans (ygx r n 128 k hE hlt)
      have hfree:=hH.free (128-1-k)
      rw[show 128-1-k=127-k from by omega]at hcell hfree
      have hp0:(0:Int)≤127-(k:Int):=by omega
      have hp1:(127:Int)-(k:Int)<128:=by omega
      have hp2:(0:Int)≤8*(k:Int):=by omega
      have hnn:(n:Int)≤1152921504606846975:=by omega
      have hn0:(0:Int)≤(n:Int):=by omega
      have HH:=yh hH
      clear hH
      go_wp2_with fail
      have hset:=HH.out.set_ (128-1-k) (Value.int .u8 ((n:Int)*8 / 2 ^ (8*k)%256))
      rw[ygw r n 128 k hE hlt,show 128-1-k=127-k from by omega]at hset
      exact⟨⟨k+1,by omega,by go_num,hset,hb.setCell (by simp) _⟩,by simp[intOf];omega⟩
    · obtain⟨hend,hlen⟩:=yh1 r n 128 hE (by omega) hn HEc.out
      have e8:k=8:=by omega
      rw[e8,hend]at hH
      have hcv:=run_convert_bytes_arg (P:=Tryz.prog) wr 85 5 Tryz.underlying85 Tryz.underlying5 w.heap.size 0 128 128 ((padded r.data.toList n).map fun b=>(b.toNat:Int)) (by rw[List.length_map,hlen]) (fun i hi=>by
       rw[Nat.zero_add,hH.cell i]
       unfold yRow
       have hi2:i<(padded r.data.toList n).length:=by omega
       simp[List.getElem?_append,List.getD,hi2]) 9 Tryz.underlying9
      rw[ydk]at hcv
      have HH:=yh hH
      clear hH hend hlen e8
      go_wp2_with fail
      go_ret
      exact⟨rfl,hb⟩
 · have hE:r.size+9≤64:=by omega
   have hEc:64=if r.size+9>64 then 128 else 64:=by rw[if_neg (by omega)]
   have hd1:decide ((64:Int)<(r.size:Int)+9)=false:=by simp;omega
   have hr1:(r.size:Int)<128:=by omega
   have hr2:(0:Int)≤(r.size:Int):=by omega
   have HEc:=yh hEc
   clear hEc
   go_enter Tryz.func187,Tryz.ntmps187
   go_wp2_with (
    refine ydv (w0:=w) (B:=w.heap.size) rfl (.tmp 9) (.tmp 10) _ _ 5 rfl Tryz.underlying85 I5.out w.heap.size 128 128 r (zs 128) rfl rfl (Holds.new _ _ _) ((Below.refl _ _).alloc (Nat.le_refl _) _) (Nat.le_refl _) Hle.out Hfit.out ?_
    intro wA hA hbA
    have hcA:wA.cell? ⟨w.heap.size,r.size,none⟩=some (.int .u8 0):=(hA.cell r.size).trans (ymp r hr)
    have hfA:=hA.free r.size
    have HA:=yh hA
    clear hA)
   have hA2:=HA.out.set_ r.size (Value.int .u8 128)
   rw[yfj r n 64 hE (by omega)]at hA2
   go_loopw [20] (fun i wr =>∃k:Nat,k≤8∧i=.int .i64 k∧Holds wr w.heap.size (yRow (padRow r n 64 k))∧Below w.heap.size w wr) (fun i _=>8-(intOf i).toNat)
   case atStart=>exact⟨0,by omega,rfl,hA2,hbA.setCell (by simp) _⟩
   case round=>
    clear hA2 HA hcA hfA hbA
    obtain⟨k,hk,rfl,hH,hb⟩:=hrel
    by_cases hlt:k<8
    · have hcell:=(hH.cell (64-1-k)).trans (ygx r n 64 k hE hlt)
      have hfree:=hH.free (64-1-k)
      rw[show 64-1-k=63-k from by omega]at hcell hfree
      have hp0:(0:Int)≤63-(k:Int):=by omega
      have hp1:(63:Int)-(k:Int)<128:=by omega
      have hp2:(0:Int)≤8*(k:Int):=by omega
      have hnn:(n:Int)≤1152921504606846975:=by omega
      have hn0:(0:Int)≤(n:Int):=by omega
      have HH:=yh hH
      clear hH
      go_wp2_with fail
      have hset:=HH.out.set_ (64-1-k) (Value.int .u8 ((n:Int)*8 / 2 ^ (8*k)%256))
      rw[ygw r n 64 k hE hlt,show 64-1-k=63-k from by omega]at hset
      exact⟨⟨k+1,by omega,by go_num,hset,hb.setCell (by simp) _⟩,by simp[intOf];omega⟩
    · obtain⟨hend,hlen⟩:=yh1 r n 64 hE (by omega) hn HEc.out
      have e8:k=8:=by omega
      rw[e8,hend]at hH
      have hcv:=run_convert_bytes_arg (P:=Tryz.prog) wr 85 5 Tryz.underlying85 Tryz.underlying5 w.heap.size 0 64 128 ((padded r.data.toList n).map fun b=>(b.toNat:Int)) (by rw[List.length_map,hlen]) (fun i hi=>by
       rw[Nat.zero_add,hH.cell i]
       unfold yRow
       have hi2:i<(padded r.data.toList n).length:=by omega
       simp[List.getElem?_append,List.getD,hi2]) 9 Tryz.underlying9
      rw[ydk]at hcv
      have HH:=yh hH
      clear hH hend hlen e8
      go_wp2_with fail
      go_ret
      exact⟨rfl,hb⟩
end
end Go.Proofs.YtalfnadejpmjnaaGreatDoor
