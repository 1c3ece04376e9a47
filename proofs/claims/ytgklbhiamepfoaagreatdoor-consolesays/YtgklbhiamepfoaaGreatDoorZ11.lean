import Derived.Lib.AppendIntMem
import Derived.Test.YtgklbhiamepfoaaGreatDoorZ0
import Derived.Test.YtgklbhiamepfoaaGreatDoorZ1
import Derived.Test.YtgklbhiamepfoaaGreatDoorZ10
set_option maxHeartbeats 16000000
set_option maxRecDepth 100000
namespace Go.Proofs.YtgklbhiamepfoaaGreatDoor
open Go.Proofs.Tryz Mx
variable {w:World}{n g:Nat}{Z:ByteArray}{x:Int}{a:Option Addr}{X:List ByteArray}
section
open Go.RowKit Go.Sort
def Gv(w : World): Prop := Hnd w /\ (∃ m : Int, w.cell? ⟨1, 0, none⟩ = some (.int .i64 m)) /\ Lib.TabIs Tryz.prog w "internal/strconv.uint64pow10" .u64 Lib.pow10Tab /\ 7 <= w.heap.size
theorem Gv.later{w w':World}{B:Nat}(h:Gv w)(a:Below B w w')(d:7<=B):Gv w':=by
 have⟨h1,⟨m,h2⟩,c,b⟩:=h;refine⟨h1.later a (by omega),⟨m,(a.cell (p:=(1,0)) (by show 1<B;omega)).trans h2⟩,?_,OP b a.size⟩;clear b;unfold Lib.TabIs World.var? at*;rw [show prog.globalNamed "internal/strconv.uint64pow10" = some 2 by kernel_rfl] at *;simp only[Option.bind_some] at*;rw[a.block 2 (by omega)];exact c
abbrev tx(s:ByteArray):Tx:=s.data.toList
theorem mG(b:Gv w)(h0:-9223372036854775808<=x)(h1:x<=9223372036854775807):
 Calls prog 52 #[x] w λe a=>e=Zv (.string ⟨(Lib.itoa x).toArray⟩)/\Hid (OS w a):=
 (Any.strconv_Itoa JK x h0 h1 w b.2.2.1).mono (by
   rintro e a ⟨rfl,k,c,rfl⟩;exact⟨rfl,Y (Lib.below_grow _ w (OJ _) k c)⟩)
theorem FX(c:Gv w)(hs:Z.size<=5000):
 Calls prog 30 #[.string Z,.string ⟨#[32]⟩] w λe b=>∃a:List ByteArray,e=Zv (w,a.length,a.length)/\Hid (a.map tx=cut 32 (tx Z))/\b=w.alloc (.cells (a.map Value.string).toArray 9):=by
 have⟨m,d⟩:=c.2.1;refine(Any.strings_Split N7 (by kernel_rfl) Z ⟨#[32]⟩ m w (by omega) d (by decide)).mono ?_;rintro e b ⟨rfl,rfl⟩;refine⟨Lib.splitB ⟨#[32]⟩ 0 (Lib.countB Z ⟨#[32]⟩) Z,?_,Y ?_,rfl⟩
 ·rw[Lib.splitB_all ⟨#[32]⟩ (by decide) 0 _ Z rfl]
 ·rw[Lib.splitB_data];exact uj 32 _ _ (by unfold Lib.countB;rw[<-Lib.count_one];exact OJ _)
theorem Jn(hs:Z.size<=5000):
 Calls prog 10 #[.string Z,.string ⟨#[10]⟩] w λe a=>e=Zv (.string ⟨(Lib.trimSuffix (tx Z) [10]).toArray⟩)/\a=w:=Any.strings_TrimSuffix NY Z ⟨#[10]⟩ w (by omega)
theorem zl(w:World):
 Calls prog 28 #[.string Z,Za x] w λe a=>e=Zv (Zb (Lib.indexByte (tx Z) x.toNat.toUInt8))/\a=w:=Any.strings_IndexByte NZ Z x w
theorem pS(b:ByteArray)(w:World)(f:X.length=n)(hc:n<=g)(h:0<n->∃c o,a=some ⟨c,o,none⟩/\c<w.heap.size/\∀(j:Nat) x,X[j]?=some x->w.cell? ⟨c,o+j,none⟩=some (.string x))(p:n<=1000000)(i:(Lib.join (X.map tx) (tx b)).length<=1000000):
 Calls prog 58 #[(a,n,g),.string b] w λe d=>e=Zv (.string ⟨(Lib.join (X.map tx) (tx b)).toArray⟩)/\Hid (OS w d):=by
 subst f;cases X with
 |nil=>exact(Any.strings_Join_none Ht xQ a g b w).mono (by rintro e d ⟨rfl,rfl⟩;exact⟨rfl,Y (ce _ _)⟩)
 |cons x l=>
  obtain⟨c,o,rfl,m,k⟩:=h (by simp);exact(Any.strings_Join Ht xQ c o g (x::l) b w k m (by omega) hc (OP i (by decide))).mono (by rintro e d ⟨rfl,h⟩;exact⟨rfl,Y h⟩)
theorem FT(h:n<100):Calls prog 99 #[n] w λe a=>e=Zv (.string ⟨(Lib.decDigits n).toArray⟩)/\a=w:=Any.internal_strconv_small N8 n h w
theorem Im(h1:1<=n)(h2:n<18446744073709551616)(a:Gv w):Calls prog 100 #[.int .u64 n] w λe b=>e=Zv (Zb (Lib.nDigits n))/\b=w:=Any.internal_strconv_numDigits {JK with} n h1 h2 w a.2.2.1
theorem Dv(l:n<18446744073709551616)(o:Gv w):
 Calls prog 75 #[.int .u64 n,Zb 10] w λe c=>e=Zv (.string ⟨(Lib.decDigits n).toArray⟩)/\Hid (OS w c):=by
 by_cases hs:n<100
 ·have x:(n:Int)<100:=by omega
  go_enter func75,ntmps75;go_wp2_with (go_at_call 99;refine(FT hs).mono ?_;rintro e c ⟨rfl,rfl⟩);go_ret;exact⟨rfl,(ce _ _)⟩
 ·have s:1<=n:=by omega
  have x:¬(n:Int)<100:=by omega
  have A:Lib.nDigits n<=20:=by have:=Lib.numDigits_eq n s l;split at this<;>omega
  have⟨W,f⟩:=ZX (w.alloc (.cells (Array.replicate 24 (Za 0)) 168));have i:Holds (λ(b:UInt8)=>Value.int .u8 (b.toNat:Int)) W w 0 (Array.replicate (Lib.nDigits n) (0:UInt8)):=λj a=>by
   have B:j<Lib.nDigits n:=by simpa using a
   rw[f,m9];refine⟨?_,World.frozen?_alloc_new _ _ _ _⟩;rw[lw,Array.getElem?_replicate,UY (by omega),getElem!_pos _ j a];simp
  have g:=Any.internal_strconv_formatBase10 N9 w 0 24 n (Array.replicate (Lib.nDigits n) 0) W i (by rw[Array.size_replicate];exact Lib.lt_pow_nDigits n) l (by rw[Array.size_replicate];omega);rw[Array.size_replicate] at g;have y:=Y g;have v:=Y i;have u:=Y (o.later (show OS w W by rw[f];exact af));have m:prog.arrayLen 168=24:=by kernel_rfl
  have p:∀W,(sizeOf (prog.elem 168)).run prog W=.ok 1 W:=λW=>by kernel_rfl
  have E:∀W,(Instr.sliceAt 168 (w,0) none (some (Zb (Lib.nDigits n:Int))) none).run prog W=.ok (w,Lib.nDigits n,24) W:=λW=>by
   rw[run_sliceAt_array_h W 168 ⟨w.heap.size,0,none⟩ (by kernel_rfl) .i64 (Lib.nDigits n:Int) (by omega) (by rw[m];omega)];rw[m];simp[p,slicedAt,Addr.add]
  clear g i m p;have t:=o.2.2.2;go_enter func75,ntmps75;go_upto_region 5 with fail;rw[show w.alloc (.cells #[Zu,Zu,Zu,Zu,Zu,Zu,Zu,Zu,Zu,Zu,Zu,Zu,Zu,Zu,Zu,Zu,Zu,Zu,Zu,Zu,Zu,Zu,Zu,Zu] 168)=W from f.symm];go_wp2_with (go_at_call 100;refine(Im s l (u t)).mono ?_;rintro e c ⟨rfl,r⟩;rw[r];clear r c);refine y.mono ?_;rintro e c ⟨rfl,k,C,d,rfl,h⟩;have D:(convert 26 9 (w,Lib.nDigits n,24)).run prog ((putRow (λ(b:UInt8)=>Value.int .u8 (b.toNat:Int)) W w 0 d).drewN k)=.ok (.string ⟨(Lib.decDigits n).toArray⟩) ((putRow (λ(b:UInt8)=>Value.int .u8 (b.toNat:Int)) W w 0 d).drewN k):=by
   have q:=run_convert_bytes_back (P:=prog) ((putRow (λ(b:UInt8)=>Value.int .u8 (b.toNat:Int)) W w 0 d).drewN k) 26 9 5 ⟨w,0,none⟩ 24 (Lib.decDigits n) Tryz.underlying26 Tryz.underlying5 Tryz.underlying9 (λj a=>by
    rw[Lib.row_is_numeral h j a,Lib.add_plain,World.cell?_drewN];exact cell?_putRow (λ(b:UInt8)=>Value.int .u8 (b.toNat:Int)) _ w 0 _ d v (by rw[h.size,Array.size_replicate]) j (by rw[h.size];rw[Lib.decDigits_length] at a;exact a))
   rw[Lib.decDigits_length] at q;exact q
  go_wp2_with fail;go_ret;refine⟨rfl,Y ?_⟩;rw[f,alloc_eq_grow];obtain⟨z,_,e⟩:=putRow_grow_new (λ(b:UInt8)=>Value.int .u8 (b.toNat:Int)) w #[_] w 0 d (OJ _);rw[e];exact Lib.below_grow _ w (OJ _) k z
theorem Mq(c:n<18446744073709551616)(b:Gv w):
 Calls prog 53 #[.int .u64 n,Zb 10] w λe a=>e=Zv (.string ⟨(Lib.decDigits n).toArray⟩)/\Hid (OS w a):=by
 go_enter func53,ntmps53;go_wp2_with (go_at_call 75;refine(Dv c b).mono ?_;rintro e a ⟨rfl,h⟩);go_ret;exact⟨rfl,h⟩
end
section
open Go.RowKit Go.Shelf
attribute [local go_sem] Oper.semAt_some
theorem DG(c:UInt8):∀s:Tx,-1<=Lib.indexByte s c
 |[]=>by unfold Lib.indexByte;omega
 |b::l=>by
  have h:=DG c l;unfold Lib.indexByte;split
  ·omega
  ·split<;>omega
theorem Dl:Z.extract n g=⟨(((tx Z).drop n).take (g-n)).toArray⟩:=by
 have h:tx (Z.extract n g)=((tx Z).drop n).take (g-n):=by
  show(Z.extract n g).data.toList=_;rw[ByteArray.data_extract,Array.toList_extract,List.extract_eq_take_drop]
 rw[<-h]
namespace Mx
def raw:Tx→List Tx
 | [] => []
 | c :: r => if c = 10 then [10] :: raw r else (c :: (raw r).headD []) :: (raw r).tail
theorem qj:∀{s:Tx},(10:UInt8)∉s->s≠[]->raw s=[s]
 |[c],h,_=>by unfold raw;rw[UX (λe=>h (by simp[e]))];rfl
 |c::d::r,h,_=>by
  rw[raw,UX (λe=>h (by simp[e])),qj (s:=d::r) (λe=>h (gt _ e)) (by simp)];rfl
theorem sN(b:Tx):∀{a:Tx},(10:UInt8)∉a->raw (a++10::b)=(a++[10])::raw b
 |[],_=>by show raw (10::b)=_;rw[raw,UY rfl];rfl
 |c::r,h=>by
  show raw (c::(r++10::b))=_
  rw[raw,UX (λe=>h (by simp[e])),sN b (a:=r) (λe=>h (gt _ e))];rfl
end Mx
def AQ(Bs:Nat)(w:World):Nat:=match w.cell? ⟨Bs,0,none⟩ with
 |some (.string s)=>s.size
 |_=>0
theorem Hz(hn:1<=n)(hs:Z.size<=5000)(K:Bx w g #[.string Z] 9):
 Cv n 27 #[(g,0)] (λx:Tx=>.string ⟨(x.take 5000).toArray⟩) g (raw (tx Z)) w:=by
 intro S J W V O o f h0;have R:Bx W g #[.string Z] 9:=(V.block g K.lt).trans K;refine callsIn_of_wp func27 rfl trivial ?_ rfl;simp only[ntmps27,EQ,fd,ut,Nat.reduceAdd,Nat.reduceSub,ww,AC,LE,fI,pp,i6];gi_wp2;gi_loopw [3] (λ_ wr=>∃(r:ByteArray) (a:List Tx),Bx wr g #[.string r] 9/\r.size<=5000/\raw (tx Z)=a++raw (tx r)/\J a wr)
  (λ_ wr=>AQ g wr)
 case atStart=>exact⟨Z,[],R,hs,rfl,h0⟩
 case round=>
  have⟨r,a,l,T,m,k⟩:=hrel;have hc:wr.cell? g=some (.string r):=l.cell 0;have hz:=l.frozen;by_cases H:r.size=0
  ·have e0:tx r=[]:=by
    have u:(tx r).length=0:=by rw[<-H];rfl
    exact List.length_eq_zero_iff.1 u
   rw[e0,raw,m7] at m;have hi:¬(0:Int)<(r.size:Int):=by omega
   have G:¬0<r.size:=by omega
   clear O o f;gi_wp2;go_end0;exact⟨⟨_,rfl⟩,by first|exact k|(rw[m];exact k)⟩
  ·have hi:(0:Int)<(r.size:Int):=by omega
   have G:0<r.size:=by omega
   have j:=Y m;clear m;have⟨I,h⟩:=ZX (Lib.indexByte (tx r) 10);have y:=Y (callsIn_wide (n:=n-1).2 (zl (Z:=r) (x:=10) wr));rw[show((10:Int).toNat.toUInt8)=10 from rfl,<-h] at y;gi_wp2;refine⟨trivial,y.mono ?_⟩;rintro e P ⟨rfl,D⟩;rw[D];clear D P y;by_cases h1:I=-1
   ·subst h1;have b:=qj (vX h.symm) (λe=>H (by show(tx r).length=0;rw[e];rfl));have⟨X,ab,assign,body,s,q⟩:=f a (tx r) (wr.setCell g (.string ⟨#[]⟩)) (o _ _ _ k) (by rw[j,b];simp);rw[show(⟨((tx r).take 5000).toArray⟩:ByteArray)=r by rw[OL T]] at s;gi_wp2;refine q.mono ?_;rintro e B ⟨rfl,z,p⟩;have c:Bx B g #[.string ⟨#[]⟩] 9:=p.trans (Bx.set l 0 _);gi_wp2;go_roundw
    case rel=>exact⟨⟨#[]⟩,a++[tx r],c,by decide,by rw[j,b,show raw (tx ⟨#[]⟩)=[] from rfl,m7],z⟩
    case measure=>unfold AQ;rw[c.cell 0,hc];exact G
   ·obtain⟨i,rfl⟩:∃i:Nat,I=(i:Int):=⟨I.toNat,by
     have u:=DG 10 (tx r);rw[<-h] at u;omega⟩
    have⟨b,e3,U⟩:=oQ h.symm;have af:i<r.size:=U;have ag:(i:Int)+1<=(r.size:Int):=by omega
    have ad:i+1<=r.size:=by omega
    have v:=sN ((tx r).drop (i+1)) e3;rw[<-b] at v;have N:=Y v;have e7:=Y b;obtain⟨t,F⟩:∃t:ByteArray,Hid (t=r.extract (i+1) r.size):=⟨_,rfl⟩;obtain⟨E,ae⟩:∃E:ByteArray,Hid (E=r.extract 0 (i+1)):=⟨_,rfl⟩;have C:=Y (show tx t=(tx r).drop (i+1) by
     rw[F,Dl];exact OL (by rw[ge];exact OJ _))
    have⟨A,d⟩:=ZX ((wr.setCell g (.string (r.extract (i+1) r.size))).drew);have M:J a A:=by
     rw[d];exact O _ _ _ none (o _ _ _ k) ⟨rfl,rfl,rfl,OJ _,λ_ _ _=>rfl⟩ (λr e=>by cases e)
    have Q:Hid (Bx A g #[.string t] 9):=(by rw[d,F];exact Bx.set l 0 _);have⟨X,ab,assign,body,s,q⟩:=f a ((tx r).take i++[10]) A M (by rw[j,N];simp);have L:(⟨(((tx r).take i++[10]).take 5000).toArray⟩:ByteArray)=r.extract 0 (i+1):=by
     have h8:(tx r)[i]?=some 10:=by
      conv=>lhs;rw[e7]
      rw[ON (by rw[OM];omega),OM,Uj (by omega),TK];rfl
     rw[Dl,Un,Nat.sub_zero,OL (l:=(tx r).take i++[10]) (by rw[OC,OM];simp;omega),up,h8];rfl
    rw[L,d] at s;clear v b f h1 o M L;gi_wp2;gi_region;gi_wp2;rw[<-d];refine q.mono ?_;rintro e B ⟨rfl,z,p⟩;have c:Bx B g #[.string t] 9:=p.trans Q;have h7:t.size=r.size-(i+1):=by
     show(tx t).length=_;rw[C,ge];rfl
    gi_wp2;go_roundw
    case rel=>exact⟨t,a++[(tx r).take i++[10]],c,by omega,by rw[j,N,C,eq];rfl,z⟩
    case measure=>unfold AQ;rw[c.cell 0,hc];show t.size<r.size;omega
