import Derived.Lib.IfaceEq
import Derived.Test.YtgklbhiamepfoaaGreatDoorZ3
set_option maxHeartbeats 16000000
set_option maxRecDepth 100000
namespace Go.Proofs.YtgklbhiamepfoaaGreatDoor
open Go renaming World->W_,Value->V_,Calls->C_,Addr->A_
open Go.Proofs.Tryz Mx
variable {l L K J I:List Int}{g k m c:Nat}{v u:W_}{a q:Option A_}{x y:Int}{V M:V_}{Z:Array V_}{X:Array Oper}{U:Oper}{T:Act}{S:Exit->Act->W_->Prop}{R N:Operand}{Q:A_}{P:Obj}{O:TypeId}
section
open Go.RowKit
theorem aQ:aJ 0=Zn:=rfl
theorem bJ(h:x≠0):aJ x=Zf x:=by unfold aJ;rw[UX h]
end
section
open Go.RowKit
variable {w:W_}
namespace Mx
def cV:Nat→Nat→List Int
 | 0, x => [(x : Int)]
 | f + 1, x => if x < 128 then [(x : Int)] else ((x % 128 + 128 : Nat) : Int) :: cV f (x / 128)
def cT(x:Nat):List Int:=cV 9 x
theorem ly(f x:Nat)(h:x<128):cV f x=[(x:Int)]:=by
 cases f with
 |zero=>rfl
 |succ f=>rw[cV,UY h]
theorem ky(f x:Nat)(h:128<=x):cV (f+1) x=((x%128+128:Nat):Int)::cV f (x/128):=by
 rw[cV,UX (by omega)]
theorem yg(f x:Nat):(cV f x).length<=f+1:=by
 induction f generalizing x with
 |zero=>simp[cV]
 |succ f a=>
  rw[cV];split
  ·simp
  ·simp[a]
theorem vQ(f x:Nat)(h:x<128^(f+1)):∀c∈cV f x,0<=c/\c<=255:=by
 induction f generalizing x with
 |zero=>intro c hc;simp[cV] at hc;subst hc;simp at h;omega
 |succ f a=>
  intro c hc;rw[cV] at hc;split at hc
  ·simp at hc;subst hc;omega
  ·rcases ro.1 hc with rfl|hc
   ·omega
   ·exact a (x/128) (by rw[T5] at h;exact Nat.div_lt_of_lt_mul (by omega)) c hc
end Mx
def Own(w:W_)(base:Nat)(v:V_)(l:List Int):Prop:=w.ownsRow base 5 1 v l.length (l.map (Value.int .u8))
theorem Tryz.info5:(prog.info? 5).map (λi=>(i.zero,i.size,i.bytes))=some (some (.int .u8 0),1,1):=by kernel_rfl
theorem Own.alloc{w:W_}{a:Nat}{v:V_}{l:List Int}(h:Own w a v l)(o:Obj):Own (w.alloc o) a v l:=World.ownsRow.alloc h o
theorem aE{rest:List Oper}(A:U.guard=none)(o:U.op=.call {callee:=.builtin .append,args:=#[R,N],argTypes:=#[26,26]})(d:Own w g (T.eval R) l)(f:Nat)(s:T.eval N=(Q,m,f))(e:L.length=m)(B:∀j u,(L.map (Value.int .u8))[j]?=some u->w.cell? (Q.add j)=some u)(D:l.length+m<=1000000)(c:g<=w)(k:∀b a,Own a g b (l++L)->Below g w a->wpList prog X S rest (T.put U.dst b) a):wpList prog X S (U::rest) T w:=by
 have⟨p,x,q,h,z⟩:=info_parts Tryz.info5;refine UN w A R N 26 o g 5 p (Za 0) 1 1 Tryz.underlying26 x q h z rfl (by decide) (T.eval R) l.length (l.map (Value.int .u8)) rfl d Q m f (L.map (Value.int .u8)) s (by simp[e]) B ?_ (by unfold maxLen;omega) (by omega) c ?_
 ·intro u y;obtain⟨C,_,rfl⟩:=m8.1 y;rfl
 ·intro b a v i _;refine k b a ?_ ?_
  ·unfold Own;rw[OC,le,e];exact v
  ·exact(ce g w).grown i c (λt r=>(World.ownsRow.lt d t r).1)
theorem kV(h:Own w g V l)(e:l≠[]):∃a b,V=.slice (some ⟨a,0,none⟩) l.length b/\g<=a/\a<w.heap.size:=by
 rcases h.2 with ⟨_,f⟩|⟨a,b,j,c,d,i,_⟩
 ·exact absurd (kw f) e
 ·exact⟨a,b,c,d,(co.1 i).1⟩
theorem cf(h:Z=(l.map (Value.int .u8)).toArray):
 ∀j u,(l.map (Value.int .u8))[j]?=some u->(v.alloc (.cells Z 5)).cell? ((⟨v,0,none⟩:A_).add j)=some u:=by
 intro j u a;subst h;have b:(⟨v,0,none⟩:A_).add j=⟨v,j,none⟩:=by unfold Addr.add;split<;>simp_all
 rw[b,lw];simpa using a
theorem pK(o:Own v g V l)(F:g<=v)(G:l.length<=10000)(z:(k:Int)<=2147483647):
 C_ prog 234 #[V,k] v λx d=>∃c,x=Zv c/\Own d g c (l++cT k)/\Below g v d:=by
 have u:=Y o;clear o;go_enter func234,ntmps234;go_wp2;go_loopw [0,1] (λV y wr=>∃(f a:Nat) (b:List Int),f<=9/\b.length+f=9/\Hid (a<128^(f+1))/\(a:Int)<=2147483647/\y=Zb a/\Hid (b++cV f a=cT k)/\Hid (Own wr g V (l++b))/\Below g v wr)
  (λ_ y _=>(intOf y).toNat)
 case atStart=>exact⟨9,k,[],by omega,by simp,by unfold Hid;omega,z,rfl,rfl,by unfold Hid;rw[m7];exact u,ce _ _⟩
 case round=>
  obtain⟨f,a,b,B,E,q,C,rfl,p,r,j⟩:=hrel;have D:=j.size;by_cases A:(a:Int)<128
  ·have e:=Y (show l++b++[(a:Int)]=l++cT k by rw[<-p,ly f a (by omega),eq]);go_wp2_with (at_builtin;refine aE rfl rfl (r.alloc _) (Q:=⟨wr,0,none⟩) (m:=1) 1 (L:=[(a:Int)]) rfl rfl ?c1 ?c2 ?c3 ?_);case c1=>exact cf rfl
   case c2=>rw[OC];omega
   case c3=>simp;omega
   intro c d h i;go_wp2;go_ret;exact⟨c,rfl,by rw[<-e,eq];exact h,j.trans (((ce _ _).alloc (by omega) _).trans i)⟩
  ·obtain⟨f,rfl⟩:∃s,f=s+1:=by
    cases f with
    |zero=>have:=q.o;simp at this;omega
    |succ f=>exact⟨f,rfl⟩
   have e:=Y (show(b++[((a%128+128:Nat):Int)])++cV f (a/128)=cT k by rw[<-p,ky f a (by omega),eq];rfl);have t:Hid (a/128<128^(f+1)):=(by have:=q.o;rw[T5] at this;exact Nat.div_lt_of_lt_mul (by omega));go_wp2_with (at_builtin;refine aE rfl rfl (r.alloc _) (Q:=⟨wr,0,none⟩) (m:=1) 1 (L:=[((a%128+128:Nat):Int)]) rfl rfl ?c1 ?c2 ?c3 ?_);case c2=>omega
   case c3=>omega
   intro c d h i;go_wp2;go_roundw
   case rel=>exact⟨f,a/128,b++[((a%128+128:Nat):Int)],by omega,by simp;omega,t,by omega,by go_num,e,by unfold Hid;rw[show((a%128+128:Nat):Int)=(a:Int)%128+128 by omega];exact h,j.trans (((ce _ _).alloc (by omega) _).trans i)⟩
   case measure=>simp[intOf];omega
end
section
open Go.RowKit
variable {w:W_}
namespace Mx
def eJ(s:Nat):List Int:=[((s/16777216:Nat):Int),((s/65536%256:Nat):Int),((s/256%256:Nat):Int),((s%256:Nat):Int)]
end Mx
theorem Bytes.later{w':W_}(h:Bytes w a g l)(j:OS w w'):Bytes w' a g l:=by
 have⟨h1,h2,f,m⟩:=h;refine⟨h1,h2,f,λd=>?_⟩;have⟨b,c,k,hc⟩:=m d;refine⟨b,c,k,λi e=>?_⟩;have:=hc i e;rw[j.cell (p:=(b,c+i)) (TX w _ this)];exact this
theorem aD.later{w':W_}(j:aD w a g l)(c:OS w w'):aD w' a g l:=by
 have⟨h1,h2,m⟩:=j;refine⟨h1,h2,λf=>?_⟩;have⟨b,d,k,e,hc⟩:=m f;refine⟨b,d,k,by have:=c.size;omega,λi h=>?_⟩;have:=hc i h;rw[c.cell (p:=(b,d+i)) e];exact this
theorem af:OS v (v.alloc P):=(ce _ _).alloc (OJ _) _
theorem mZ:((eJ g).map (Value.int .u8)).toArray=#[.int .u8 ((g:Int)/16777216),.int .u8 ((g:Int)/65536%256),.int .u8 ((g:Int)/256%256),.int .u8 ((g:Int)%256)]:=by
 simp[eJ]
theorem rV(b:Nat)(d:Bytes v a g l):
 C_ prog 222 #[(a,g,b)] v λe u=>e=.returned (.agg ((eJ (crc l)).map (Value.int .u8)).toArray)/\OS v u:=by
 have f:=Y d;clear d;obtain⟨S,c,h⟩:∃S:Nat,Hid (S=crc l)/\(S:Int)<4294967296:=⟨_,rfl,by have:=vx l;omega⟩;go_enter func222,ntmps222;go_wp2_with fail;refine(Ln (g:=b) (f.later (af))).mono ?_;rintro e u ⟨rfl,rfl⟩;rw[<-c];go_wp2;refine UM (v:=.agg #[Za ((S:Int)/16777216),Za ((S:Int)/65536%256),Za ((S:Int)/256%256),Za ((S:Int)%256)]) (by simp[results,results222,go_sem]) rfl ⟨?_,af⟩;rw[<-c,mZ]
end
section
open Go.RowKit
variable {kind:Int}{bs:List Int}{nb n:Nat}{w:W_}
namespace Mx
def ca(al:List Int):List Int:=al.flatMap λx=>cT x.toNat
def dW(kind:Int)(al:List Int)(nb:Nat)(bs:List Int):List Int:=[16*kind+(al.length:Int),(nb:Int)]++(ca al++bs)
def bF(kind:Int)(al:List Int)(nb:Nat)(bs:List Int):List Int:=dW kind al nb bs++eJ (crc (dW kind al nb bs))
theorem En(l:List Int)(k:Nat)(x:Int)(b:k<l.length)(a:l.getD k 0=x):ca (l.take (k+1))=ca (l.take k)++cT x.toNat:=by
 rw[Uu b];rw[Oy,Ox b] at a;simp only[Tw] at a;simp[ca,a]
theorem AF(x:Nat):(cT x).length<=10:=yg 9 x
theorem mP(l:List Int):(ca l).length<=10*l.length:=by
 induction l with
 |nil=>simp[ca]
 |cons x l a=>simp[ca] at*;have:=AF x.toNat;omega
theorem Em(l:List Int)(h:∀x∈l,0<=x/\x<=2147483647):∀c∈ca l,0<=c/\c<=255:=by
 intro c hc;simp only[ca,If] at hc;have⟨x,a,hc⟩:=hc;have b:=h x a;exact vQ 9 x.toNat (by omega) c hc
theorem qG(h0:0<=kind)(h1:kind<=15)(e:l.length<=12)(d:nb<=32)(c:∀x∈l,0<=x/\x<=2147483647)(b:∀x∈bs,0<=x/\x<=255):
 ∀x∈dW kind l nb bs,0<=x/\x<=255:=by
 intro x a;simp only[dW,ip,ro,Um,or_false] at a;rcases a with (rfl|rfl)|a|a
 ·omega
 ·omega
 ·exact Em l c x a
 ·exact b x a
theorem CL(a:l.length<=12)(c:nb<=32)(b:bs.length=8*nb):(dW kind l nb bs).length<=2000:=by
 have:=mP l;simp[dW];omega
theorem cK(l:List Int)(k:Nat)(x:Int)(b:k<l.length)(a:l.getD k 0=x):l.take (k+1)=l.take k++[x]:=by
 rw[Uu b];rw[Oy,Ox b] at a;simp only[Tw] at a;rw[a]
end Mx
theorem kU(h:Own w k (g,n,m) l)(d:∀x∈l,0<=x/\x<=255):Bytes w (some ⟨g,0,none⟩) n l:=by
 have hc:=World.ownsRow.cells h (g:=g) rfl;rcases h.2 with ⟨a,_⟩|⟨f,j,o,a,_,_,p,e,_⟩
 ·simp at a
 ·simp at a;obtain⟨rfl,rfl,rfl⟩:=a;refine⟨rfl,by omega,d,λ_=>⟨g,0,rfl,λi c=>?_⟩⟩;have:=hc i (Za (l.getD i 0)) (by rw[i8,Oy,Ox c];rfl);have b:(⟨g,0,none⟩:A_).add i=⟨g,0+i,none⟩:=by unfold Addr.add;split<;>simp_all
  rw[<-b];exact this
def bm(w:W_)(a:Option A_)(n:Nat)(bs:List Int):Prop:=
 bs.length=8*n/\n<=maxLen/\(∀x∈bs,0<=x/\x<=255)/\(0<n->∃b off,a=some ⟨b,off,none⟩/\b<w.heap.size/\∀i,i<8*n->w.cell? ⟨b,off+i,none⟩=Za (bs.getD i 0))
theorem Iz(h:Z=(l.map (Value.int .u8)).toArray)(a:g<=v)(b:l.length<=1000000):
 Own (v.alloc (.cells Z 5)) g (v,l.length,l.length) l:=by
 subst h;refine⟨by simp,.inr ⟨v,l.length,(l.map (Value.int .u8)).toArray,rfl,a,UO v _,OJ _,by unfold maxLen;omega,by simp,?_⟩⟩;rw[OL (by simp)]
def Boxed(w wr:W_)(s1 s2:V_):Prop:=
 wr.cell? ⟨w,1,none⟩=some s1/\wr.cell? ⟨w,2,none⟩=some s2/\OS w wr/\w.heap.size+1<=wr
theorem Boxed.later{w':W_}(h:Boxed w v V M)(a:Below (w+1) v w'):Boxed w w' V M:=
 ⟨(a.cell (p:=(w,1)) (by simp)).trans h.1,(a.cell (p:=(w,2)) (by simp)).trans h.2.1,h.2.2.1.trans (a.mono (by omega)),by have:=a.size;have:=h.2.2.2;omega⟩
theorem Boxed.start(w:W_)(c a b:V_):Boxed w (w.alloc (.cells #[c,a,b] 308)) a b:=
 ⟨by rw[lw];rfl,by rw[lw];rfl,af,by simp⟩
theorem eu(a:may kind l g=0):0<=kind/\kind<=15/\l.length<=12/\g<=32/\∀x∈l,0<=x/\x<=2147483647:=by
 unfold may at a;split at a
 ·omega
 ·split at a
  ·omega
  ·split at a
   ·omega
   ·rename_i h1 h2 b;refine⟨by omega,by omega,by omega,by omega,λx d=>?_⟩;rw[Uc] at b;have:¬bH x=true:=λc=>b ⟨x,d,c⟩
    simp[bH] at this;omega
theorem pQ(a:k<l.length):l.getD k 0∈l:=by
 rw[Oy,Ox a];exact TJ a
theorem bm.later{w':W_}(j:bm w a n bs)(c:OS w w'):bm w' a n bs:=by
 have⟨h1,h2,h,l⟩:=j;refine⟨h1,h2,h,λf=>?_⟩;have⟨b,d,k,e,hc⟩:=l f;refine⟨b,d,k,by have:=c.size;omega,λi g=>?_⟩;have:=hc i g;rw[c.cell (p:=(b,d+i)) e];exact this
end
section
open Go.RowKit
theorem IB{c1 c2:Nat}(h1:aD v a g l)(h2:k<=maxLen)(b:may x l k≠0):
 C_ prog 212 #[.agg #[x,(a,g,c1),(q,k,c2)]] v λe c=>e=Zr #[Zs,aJ (may x l k)]/\OS v c:=by
 have f:=Y h1;clear h1;go_enter func212,ntmps212;go_wp2_with fail;refine(nK x q c1 c2 (f.later (af)) h2).mono ?_;rintro e c ⟨rfl,d⟩;rw[bJ b];go_wp2;go_ret2;exact⟨by rw[bJ b];rfl,(af).trans (d.mono (by simp))⟩
theorem mm(w:W_)(h:Z=(l.map (Value.int .u8)).toArray):
 ∀j u,(l.map (Value.int .u8))[j]?=some u->(w.alloc (.cells Z O)).cell? ((⟨w,0,none⟩:A_).add j)=some u:=by
 intro j u a;subst h;have b:(⟨w,0,none⟩:A_).add j=⟨w,j,none⟩:=by unfold Addr.add;split<;>simp_all
 rw[b,lw];simpa using a
theorem EH(h:Own v g V l)(a:OS v u):Own u g V l:=
 World.ownsRow.kept h (row:=none) ⟨a.os,a.tape,a.output,a.size,λk b _=>a.block k b⟩ (by cases V.ownBlock<;>simp)
theorem eight{w:W_}{b off:Nat}(bs:List Int)(n m:Nat)(k:bs.length=8*n)(l:m<n)(hc:∀i,i<8*n->w.cell? (b,off+i)=Za (bs.getD i 0)):
 ∃a c f h d j g e:Int,w.cell? (b,off+m*8)=Za a/\w.cell? (b,off+m*8+1)=Za c/\w.cell? (b,off+m*8+2)=Za f/\
  w.cell? (b,off+m*8+3)=Za h/\w.cell? (b,off+m*8+4)=Za d/\w.cell? (b,off+m*8+5)=Za j/\
  w.cell? (b,off+m*8+6)=Za g/\w.cell? (b,off+m*8+7)=Za e/\bs.take (8*(m+1))=bs.take (8*m)++[a,c,f,h,d,j,g,e]:=by
 refine⟨bs.getD (8*m) 0,bs.getD (8*m+1) 0,bs.getD (8*m+1+1) 0,bs.getD (8*m+1+1+1) 0,bs.getD (8*m+1+1+1+1) 0,bs.getD (8*m+1+1+1+1+1) 0,bs.getD (8*m+1+1+1+1+1+1) 0,bs.getD (8*m+1+1+1+1+1+1+1) 0,?_,?_,?_,?_,?_,?_,?_,?_,?_⟩
 rotate_left 8
 ·rw[show 8*(m+1)=8*m+1+1+1+1+1+1+1+1 by omega];rw[cK bs _ _ (by omega) rfl,cK bs _ _ (by omega) rfl,cK bs _ _ (by omega) rfl,cK bs _ _ (by omega) rfl,
   cK bs _ _ (by omega) rfl,cK bs _ _ (by omega) rfl,cK bs _ _ (by omega) rfl,cK bs _ _ (by omega) rfl]
  simp only[eq,i6,pp]
 ·have:=hc (8*m) (by omega);rw[show off+8*m=off+m*8 by omega] at this;exact this
 ·have:=hc (8*m+1) (by omega);rw[show off+(8*m+1)=off+m*8+1 by omega] at this;exact this
 ·have:=hc (8*m+1+1) (by omega);rw[show off+(8*m+1+1)=off+m*8+2 by omega] at this;exact this
 ·have:=hc (8*m+1+1+1) (by omega);rw[show off+(8*m+1+1+1)=off+m*8+3 by omega] at this;exact this
 ·have:=hc (8*m+1+1+1+1) (by omega);rw[show off+(8*m+1+1+1+1)=off+m*8+4 by omega] at this;exact this
 ·have:=hc (8*m+1+1+1+1+1) (by omega);rw[show off+(8*m+1+1+1+1+1)=off+m*8+5 by omega] at this;exact this
 ·have:=hc (8*m+1+1+1+1+1+1) (by omega);rw[show off+(8*m+1+1+1+1+1+1)=off+m*8+6 by omega] at this;exact this
 ·have:=hc (8*m+1+1+1+1+1+1+1) (by omega);rw[show off+(8*m+1+1+1+1+1+1+1)=off+m*8+7 by omega] at this;exact this
theorem sJ(c1 c2:Nat)(h1:aD v a g l)(h2:bm v q k L)(J:may x l k=0):
 C_ prog 212 #[.agg #[x,(a,g,c1),(q,k,c2)]] v λz t=>∃r,z=Zr #[r,Zn]/\Own t (v+1) r (bF x l k L)/\OS v t:=by
 have⟨ay,am,ai,ad,W⟩:=eu J;have aj:g<=12:=by rw[<-h1.1];exact ai
 have X:=Y W;have c:=Y h1;have o:=Y h2;have HM:=Y J;clear h1 h2 J W ai;obtain⟨hd,H,aH⟩:∃hd:List Int,Hid (hd=[16*x+(g:Int),(k:Int)])/\hd.length<=2:=⟨_,rfl,by simp⟩;go_enter func212,ntmps212;go_wp2_with fail;refine(nK x q c1 c2 (c.later (af)) o.2.1).mono ?_;rintro z E ⟨rfl,d⟩;have j:=(Boxed.start v (Zb x) (a,g,c1) (q,k,c2)).later (w':=E) (d.mono (by simp));have aw:E.cell? v=Zb x:=by
  rw[d.cell (p:=v) (by simp),lw];rfl
 have h:=Y j;have⟨D,G,ax,u⟩:=j;clear d;have ap:v<E.heap.size:=by omega
 rw[HM,aQ];go_wp2;go_loopw [5,7,32] (λr _ i wr=>∃b:Nat,b<=g/\i=Zb b/\Hid (Own wr (v+1) r (hd++ca (l.take b)))/\Boxed v wr (a,g,c1) (q,k,c2))
  (λ_ _ i _=>g-(intOf i).toNat)
 case atStart=>
  refine⟨0,by omega,rfl,?_,h.later ((ce _ _).alloc (by omega) _)⟩;unfold Hid;have:=Iz (v:=E) (g:=v+1) (l:=hd) (Z:=#[Za (x*16+(g:Int)),Za (k:Int)]) (by rw[H,Int.mul_comm];rfl) (by omega) (by omega);rw[H] at this ⊢;simpa[ca] using this
 case round=>
  clear h D G ax u aw ap;obtain⟨b,aP,rfl,e,j⟩:=hrel;have h:=Y j;have⟨D,G,d,u⟩:=j;by_cases O:b<g
  ·obtain⟨A,C,B,rfl,hb,R,aO⟩:=(c.later d).at_ b O;have HX:=Y R;have aA:=X B (by rw[<-R];exact pQ (l:=l) (k:=b) (by rw[c.1];exact O));clear R;have⟨aG,aF⟩:=aA;obtain⟨aM,rfl⟩:=TA aG;obtain⟨I,ag,aq⟩:∃I:List Int,Hid (I=hd++ca (l.take b))/\I.length<=10000:=⟨_,rfl,by have:=mP (l.take b);simp at*;omega⟩;rw[<-ag] at e;go_wp2_with fail;refine(pK e u aq aF).mono ?_;rintro z t ⟨K,rfl,s,N⟩;have P:=Y s;clear s;go_wp2;go_roundw
   case rel=>exact⟨b+1,by omega,by go_num,by unfold Hid;rw[En l b _ (by rw[c.1];exact O) HX,<-eq,<-ag,m6];exact P,h.later N⟩
   case measure=>simp[intOf];omega
  ·obtain⟨y,U,aJ⟩:∃y:List Int,Hid (y=hd++ca l)/\y.length<=1000:=⟨_,rfl,by have:=mP l;have:=c.1;simp;omega⟩;have ak:Hid (Own wr (v+1) u5 y):=by
    unfold Hid;rw[U,<-OL (l:=l) (i:=b) (by rw[c.1];omega)];exact e
   clear e;go_wp2;go_loopw [5,9,43] (λr _ i wr=>∃m:Nat,m<=k/\i=Zb m/\Hid (Own wr (v+1) r (y++L.take (8*m)))/\Boxed v wr (a,g,c1) (q,k,c2))
    (λ_ _ i _=>k-(intOf i).toNat)
   case atStart=>exact⟨0,by omega,rfl,by unfold Hid;rw[Nat.mul_zero,List.take_zero,m7];exact ak,h⟩
   case round=>
    clear D G d u h ak;obtain⟨m,aN,rfl,e,j⟩:=hrel;have h:=Y j;have⟨D,G,d,u⟩:=j;by_cases az:m<k
    ·obtain⟨A,C,rfl,hb,al⟩:=o.2.2.2 (by omega);have⟨z0,z1,z2,z3,z4,z5,z6,z7,e0,e1,e2,e3,e4,e5,e6,e7,ah⟩:=eight (w:=wr) (b:=A) (off:=C) L k m o.1 az (λi hi=>(d.cell (p:=(A,C+i)) hb).trans (al i hi));have an:=Y ah;have hbl:=Y (show(L.take (8*m)).length<=256 by rw[OM];have:=o.1;omega);clear al ah;go_wp2_with (at_builtin;refine aE rfl rfl (e.alloc _) (Q:=⟨wr,0,none⟩) (m:=8) 8 (L:=[z0,z1,z2,z3,z4,z5,z6,z7]) rfl rfl ?c1 ?c2 ?c3 ?_);case c1=>exact mm _ rfl
     case c2=>have:=hbl.o;rw[OC];omega
     case c3=>simp;omega
     intro K t s au;have P:=Y s;clear s;go_wp2;go_roundw
     case rel=>exact⟨m+1,by omega,by go_num,by unfold Hid;rw[an,<-eq];simpa[eq] using P.o,h.o.later (((ce _ _).alloc (by omega) _).trans au)⟩
     case measure=>simp[intOf];omega
    ·obtain⟨f,ae,av,aL,ar⟩:∃f:List Int,Hid (f=dW x l k L)/\Hid (∀B∈f,0<=B/\B<=255)/\f.length<=2000/\f≠[]:=
      ⟨_,rfl,qG ay am (by rw[c.1];exact aj) ad X o.2.2.1,CL (by rw[c.1];exact aj) ad o.1,by unfold dW;simp⟩
     have F:Own wr (v+1) u5 f:=by
      rw[ae,dW,<-eq,c.1,<-H,<-U,<-OL (l:=L) (i:=8*m) (by rw[o.1];omega)];exact e
     obtain⟨ab,ao,rfl,aK,aS⟩:=kV F ar;have HB:=Y F;have aC:=Y (kU F av);clear F e;obtain⟨S,hS,aI⟩:∃S:Nat,Hid (S=crc f)/\(S:Int)<4294967296:=⟨_,rfl,by have:=vx f;omega⟩;go_wp2_with fail;refine(rV ao aC).mono ?_;rintro z T ⟨rfl,M⟩;rw[<-hS,mZ];have aR:=M.size;have aB:=Y (EH HB M);go_wp2_with (at_builtin;refine aE rfl rfl (aB.alloc _) (Q:=⟨T,0,none⟩) (m:=4) 4 (L:=eJ S) rfl rfl ?c1 ?c2 ?c3 ?_);case c1=>exact mm T (mZ (g:=S)).symm
     case c2=>omega
     case c3=>simp;omega
     intro K t s N;go_wp2;go_ret2;refine⟨K,rfl,by rw[bF,<-ae,<-hS];exact s,?_⟩;exact d.trans ((M.mono (by omega)).trans (((ce _ _).alloc (by omega) _).trans (N.mono (by omega))))
end
section
open Go.RowKit
theorem fR(h2:bm v a g L)(i:may x l g=0):∀c∈bF x l g L,0<=c/\c<=255:=by
 have⟨j,h,d,f,e⟩:=eu i;intro c b;rw[bF,ip] at b;rcases b with b|b
 ·exact qG j h d f e h2.2.2.1 c b
 ·have:=vx (dW x l g L);simp only[eJ,ro,Um,or_false] at b;rcases b with rfl|rfl|rfl|rfl<;>omega
end
namespace Mx
def dB:List Int→Nat
 | [] => 0
 | c :: l => c.toNat % 128 + 128 * dB l
theorem tC(l:List Int)(c:Int):dB (l++[c])=dB l+c.toNat%128*128^l.length:=by
 induction l with
 |nil=>simp[dB]
 |cons d l a=>
  simp only[i6,dB,a,fd,T5];rw[Nat.mul_add,<-Nat.add_assoc];congr 1;rw[Nat.mul_comm 128,Nat.mul_assoc]
theorem Kj(l:List Int):dB l<128^l.length:=by
 induction l with
 |nil=>simp[dB]
 |cons d l a=>
  simp only[dB,fd,T5];omega
theorem Hp(l:List Int)(c:Int)(h0:1<=c)(h1:c<128):1<=dB (l++[c]):=by
 rw[tC];have:1<=c.toNat%128:=by omega
 have h2:0<128^l.length:=Nat.pow_pos (by omega);have:=Nat.mul_le_mul this h2;omega
def jA(l:List Int):Prop:=∀c∈l,128<=c/\c<=255
theorem tA(b:List Int)(c:Int)(f:Nat)(d:jA b)(r:0<=c)(hc:c<128)(i:1<=c\/b=[])(e:b.length<=f):cV f (dB (b++[c]))=b++[c]:=by
 induction b generalizing f with
 |nil=>
  have:dB ([]++[c])=c.toNat:=by simp[dB];omega
  rw[this,ly _ _ (by omega)];simp;omega
 |cons p a o=>
  have g:1<=c:=by rcases i with h|h;exact h;simp at h
  cases f with
  |zero=>simp at e
  |succ f=>
   have q:=d p (by simp);have j:dB (p::a++[c])=p.toNat%128+128*dB (a++[c]):=rfl;have h1:=Hp a c g hc;rw[j,ky _ _ (by omega)];have k:(p.toNat%128+128*dB (a++[c]))/128=dB (a++[c]):=by omega
   have m:(((p.toNat%128+128*dB (a++[c]))%128+128:Nat):Int)=p:=by omega
   rw[k,m,o f (λx l=>d x (by simp[l])) (.inl g) (by simp at e;omega)];rfl
theorem nX(f x:Nat)(h:x<128^(f+1)):∃a c,cV f x=a++[c]/\jA a/\0<=c/\c<128/\(1<=c\/a=[])/\dB (a++[c])=x/\a.length<=f:=by
 induction f generalizing x with
 |zero=>
  simp at h;exact⟨[],(x:Int),rfl,(λc hc=>absurd hc (by simp)),by omega,by omega,.inr rfl,by simp[dB];omega,OJ _⟩
 |succ f k=>
  by_cases d:x<128
  ·exact⟨[],(x:Int),by rw[ly _ _ d];rfl,(λc hc=>absurd hc (by simp)),by omega,by omega,.inr rfl,by simp[dB];omega,by simp⟩
  ·have⟨a,c,h1,h2,g,j,i,b,l⟩:=k (x/128) (by rw[T5] at h;exact Nat.div_lt_of_lt_mul (by omega));refine⟨((x%128+128:Nat):Int)::a,c,by rw[ky _ _ (by omega),h1];rfl,?_,g,j,?_,?_,by simp;omega⟩
   ·intro e hd;rcases ro.1 hd with rfl|hd
    ·omega
    ·exact h2 e hd
   ·rcases i with h|h
    ·exact .inl h
    ·subst h;simp[dB] at b;left;omega
   ·show(((x%128+128:Nat):Int)).toNat%128+128*dB (a++[c])=x;rw[b];omega
theorem vR(f k x:Nat)(h:x<128^(k+1))(j:k<=f):cV f x=cV k x:=by
 have⟨a,c,h1,h2,d,g,e,b,i⟩:=nX k x h;rw[h1,<-b];exact tA a c f h2 d g e (by omega)
theorem lz(x:Nat)(h:x<=2147483647):∃a c,cT x=a++[c]/\jA a/\0<=c/\c<128/\(1<=c\/a=[])/\dB (a++[c])=x/\a.length<=4:=by
 have⟨a,c,h1,h2⟩:=nX 4 x (by omega);exact⟨a,c,by unfold cT;rw[vR 9 4 x (by omega) (by omega),h1],h2⟩
theorem vA(b a r g:List Int)(e c:Int)(h:b++e::r=a++c::g)(h1:jA b)(h2:jA a)(hc:e<128)(o:c<128):b=a/\e=c/\r=g:=by
 induction b generalizing a with
 |nil=>
  cases a with
  |nil=>simp at h;exact⟨rfl,h.1,h.2⟩
  |cons q f=>simp at h;have:=h2 q (by simp);omega
 |cons p m l=>
  cases a with
  |nil=>simp at h;have:=h1 p (by simp);omega
  |cons q f=>
   simp only[i6,List.cons.injEq] at h;have⟨j,k,i⟩:=l f h.2 (λx d=>h1 x (by simp[d])) (λx d=>h2 x (by simp[d]));exact⟨by rw[h.1,j],k,i⟩
theorem AE(x y:Nat)(r a:List Int)(l:x<=2147483647)(e:y<=2147483647)(h:cT x++r=cT y++a):x=y/\r=a:=by
 have⟨i,o,h1,h2,B,s,t,k,A⟩:=lz x l;have⟨p,b,c,m,z,j,v,d,u⟩:=lz y e;rw[h1,c,eq,eq] at h;have⟨g,q,f⟩:=vA i p r a o b h h2 m s j;subst g q;exact⟨k.symm.trans d,f⟩
theorem wQ(l m r d:List Int)(c:∀x∈l,0<=x/\x<=2147483647)(f:∀x∈m,0<=x/\x<=2147483647)(b:l.length=m.length)(h:ca l++r=ca m++d):l=m/\r=d:=by
 induction l generalizing m with
 |nil=>
  cases m with
  |nil=>exact⟨rfl,by simpa[ca] using h⟩
  |cons y m=>simp at b
 |cons x l k=>
  cases m with
  |nil=>simp at b
  |cons y m=>
   have e:∀z (l:List Int),ca (z::l)=cT z.toNat++ca l:=λz l=>by simp[ca]
   rw[e,e,eq,eq] at h;have q:=c x (by simp);have o:=f y (by simp);have⟨p,j⟩:=AE _ _ _ _ (by omega) (by omega) h;have⟨g,i⟩:=k m (λz a=>c z (by simp[a])) (λz a=>f z (by simp[a])) (by simpa using b) j;exact⟨by rw[g,show x=y by omega],i⟩
def aI(b:List Int)(kind:Int)(al:List Int)(nb:Nat)(bs:List Int):Prop:=
 may kind al nb=0/\bs.length=8*nb/\(∀x∈bs,0<=x/\x<=255)/\bF kind al nb bs=b
theorem jx(s:Nat):(eJ s).length=4:=rfl
theorem aI.one(h:aI L x l g J)(d:aI L y K k I):x=y/\l=K/\g=k/\J=I:=by
 have⟨p,s,A,a⟩:=h;have⟨c,C,D,j⟩:=d;have⟨u,q,E,r,f⟩:=eu p;have⟨B,z,t,v,i⟩:=eu c;rw[<-j] at a;unfold bF at a;have b:=(List.append_inj' a (by simp[jx])).1;unfold dW at b;simp only[i6,pp,List.cons.injEq] at b;have⟨c1,c2,c3⟩:=b;have e:g=k:=by omega
 have⟨m,o⟩:=wQ l K J I f i (by omega) c3;subst m;exact⟨by omega,rfl,e,o⟩
theorem scan(r:List Int)(x j:Nat)(m:x<=2147483647)(t:List Int)(o:r=cT x++t)(u:j<=r.length)(f:jA (r.take j)):
 j<=4/\j<(cT x).length/\∀c rest,r.drop j=c::rest->c<128->(cT x).length=j+1/\dB (r.take (j+1))=x/\(1<=c\/j=0)/\0<=c:=by
 have⟨a,d,h1,h2,z,p,g,l,y⟩:=lz x m;have B:(cT x).length=a.length+1:=by rw[h1];simp
 have b:r=a++d::t:=by rw[o,h1];simp
 have v:j<=a.length:=by
  rcases Uk a.length j with q|hge
  ·exfalso;have:d∈r.take j:=by
    rw[List.mem_take_iff_getElem];refine⟨a.length,by rw[b] at*;simp at*;omega,?_⟩;simp[b]
   have:=f d this;omega
  ·exact hge
 refine⟨by omega,by omega,λc rest hd hc=>?_⟩;have k:r.take j++c::rest=a++d::t:=by rw[<-hd,qr,b]
 have⟨i,A,s⟩:=vA _ _ _ _ _ _ k f h2 hc p;have e:j=a.length:=by rw[<-i,OM];omega
 refine⟨by omega,?_,?_,by omega⟩
 ·have:r.take (j+1)=a++[d]:=by rw[b,e,List.take_append];simp[List.take_of_length_le]
  rw[this,l]
 ·rcases g with h|h
  ·exact .inl (by omega)
  ·exact .inr (by rw[e,h];rfl)
end Mx
section
open Go.RowKit
def uO(l:List Int)(n size:Nat):Prop:=
 (1<=size/\size<=l.length/\n<=2147483647/\l.take size=cT n)\/(size=0/\n=0/\∀x t,x<=2147483647->l≠cT x++t)
theorem ox(V c m j:Nat)(g:V<2^j)(a:m=2^j)(d:j<=28):bits .or .u64 (V:Int) ((c:Int)%128*(m:Int))=((V+c%128*m:Nat):Int):=by
 have b:2^j<=2^28:=TD (by omega) d;have f:m<=268435456:=by rw[a];exact b
 have h:c%128*m<=127*268435456:=Nat.mul_le_mul (by omega) f;have e:(c:Int)%128*(m:Int)=((c%128*m:Nat):Int):=by simp
 rw[e,u64_or_nat V (c%128*m) (by omega) (by omega)];congr 1;have:=Nat.two_pow_add_eq_or_of_lt (i:=j) g (c%128);rw[a,Nat.or_comm,Nat.mul_comm (c%128),<-this,Nat.add_comm]
theorem jw(Z:Nat)(d:g<l.length)(a:k=dB (l.take g))(hc:l.take (g+1)=l.take g++[(c:Int)])(b:Z=k+c%128*128^g):Z=dB (l.take (g+1)):=by
 rw[hc,tC,b,a,OM,Uj (by omega)];simp
theorem Ca(a:k=dB (l.take g)):k<128^g:=by
 have h1:=Kj (l.take g);have h2:128^(l.take g).length<=128^g:=TD (by omega) (by rw[OM];omega);omega
theorem jv(b:jA (l.take g))(a:l.take (g+1)=l.take g++[(c:Int)])(h1:128<=(c:Int))(h2:c<=255):jA (l.take (g+1)):=by
 rw[a];intro d hd;rcases ip.1 hd with h|h
 ·exact b d h
 ·simp at h;omega
theorem Ke(a:g<l.length)(hc:l.getD g 0=(c:Int)):l.drop g=(c:Int)::l.drop (g+1):=by
 rw[Fn a];rw[Oy,Ox a] at hc;simp at hc;rw[hc]
theorem jg(f:g<l.length)(i:g<=4)(e:jA (l.take g))(d:l.take (g+1)=l.take g++[(c:Int)])(hc:(c:Int)<128)(b:¬c=0\/g=0)(a:k=dB (l.take (g+1)))(j:(k:Int)<=2147483647):
 uO l k (g+1):=by
 refine .inl ⟨by omega,by omega,by omega,?_⟩;have h2:=tA (l.take g) (c:Int) 9 e (by omega) hc (by rcases b with h|h;exact .inl (by omega);exact .inr (by rw[h];simp)) (by rw[OM];omega);rw[d] at a ⊢;rw[a];exact h2.symm
theorem iC(b:g<l.length)(j:jA (l.take g))(hd:l.getD g 0=(c:Int))(hc:(c:Int)<128)(o:k=dB (l.take (g+1)))(f:(c=0/\g≠0)\/2147483647<(k:Int)):uO l 0 0:=by
 refine .inr ⟨rfl,rfl,λx t d e=>?_⟩;have⟨_,_,h⟩:=scan l x g d t e (by omega) j;have⟨_,h2,a,_⟩:=h _ _ (Ke b hd) hc;rcases f with ⟨i,m⟩|i
 ·rcases a with a|a<;>omega
 ·omega
theorem wR(b:g<=l.length)(d:jA (l.take g))(a:g=l.length\/g=5):uO l 0 0:=by
 refine .inr ⟨rfl,rfl,λx t c e=>?_⟩;have⟨h1,h2,_⟩:=scan l x g c t e b d;rcases a with a|a
 ·have:=congrArg List.length e;rw[OC] at this;omega
 ·omega
theorem sO(s:Bytes v a g l):
 C_ prog 242 #[(a,g,k)] v λF D=>∃n z:Nat,F=Zr #[n,z]/\uO l n z/\D=v:=by
 have L:g<=maxLen:=s.2.1;unfold maxLen at L;have h:=Y s.1;have C:=Y s;clear s;go_enter func242,ntmps242;go_wp2;go_loop [4,10] (λE u=>∃j V:Nat,j<=g/\j<=5/\Hid (V=dB (l.take j))/\Hid (jA (l.take j))/\u=Zb j/\E=.int .u64 V)
  (λ_ u=>g-(intOf u).toNat)
 case atStart=>exact⟨0,0,by omega,by omega,rfl,(λd hc=>absurd hc (by simp)),rfl,rfl⟩
 case round=>
  obtain⟨j,V,Q,O,q,c,rfl,rfl⟩:=hrel;by_cases I:j<g
  ·obtain⟨J,K,d,rfl,r,A,G,y⟩:=(bD C).at_ j I;have m:=Y A;have f:=Y y;clear A y;by_cases o:j=5
   ·have x:=Y (wR (by rw[h];omega) c (.inr o));have N:((j:Int)==5)=true:=by simp;omega
    clear o;go_wp2;go_ret2;exact⟨0,0,rfl,x,rfl⟩
   ·have p:=Y (Ca q);obtain rfl|rfl|rfl|rfl|rfl:j=0\/j=1\/j=2\/j=3\/j=4:=by omega
    ·obtain⟨Z,i,t⟩:∃Z:Nat,Hid (Z=V+d%128*1)/\bits .or .u64 (V:Int) ((d:Int)%128)=(Z:Int):=⟨_,rfl,by simpa using ox V d 1 0 (by have:=p.o;omega) rfl (by omega)⟩;have b:=Y (jw Z (by rw[h];omega) q f (by rw[i]));have e:=Y (show 0<l.length by rw[h];omega);have R:(Z:Int)<=2147483647:=by have:=i.o;have:=p.o;omega
     clear o;have P:v.cell? (J,K)=Za (d:Int):=by simpa using G
     by_cases B:d=0
     ·have H:((d:Int)==0)=true:=by simp;omega
      have M:(d:Int)<128:=by omega
      clear B;go_wp2;go_ret2;exact⟨Z,1,by go_num,jg e (by omega) c f ‹_› (.inr rfl) b ‹_›,rfl⟩
     ·have H:((d:Int)==0)=false:=by simp;omega
      clear B;go_wp2
      ·go_ret2;exact⟨Z,1,by go_num,jg e (by omega) c f ‹_› (.inr rfl) b ‹_›,rfl⟩
      ·go_round
       case rel=>exact⟨1,Z,by omega,by omega,b,jv c f ‹_› r,rfl,rfl⟩
       case measure=>simp[intOf];omega
    ·obtain⟨Z,i,t⟩:∃Z:Nat,Hid (Z=V+d%128*128)/\bits .or .u64 (V:Int) ((d:Int)%128*128)=(Z:Int):=⟨_,rfl,ox V d 128 7 (by have:=p.o;omega) rfl (by omega)⟩;have b:=Y (jw Z (by rw[h];omega) q f (by rw[i]));have e:=Y (show 1<l.length by rw[h];omega);clear o;go_wp2
     ·go_ret2;exact⟨0,0,rfl,iC e c m ‹_› b (.inl ⟨‹_›,by omega⟩),rfl⟩
     ·go_ret2;exact⟨0,0,rfl,iC e c m ‹_› b (.inr ‹_›),rfl⟩
     ·go_ret2;exact⟨Z,2,by go_num,jg e (by omega) c f ‹_› (.inl ‹_›) b ‹_›,rfl⟩
     ·go_round
      case rel=>exact⟨2,Z,by omega,by omega,b,jv c f ‹_› r,rfl,rfl⟩
      case measure=>simp[intOf];omega
    ·obtain⟨Z,i,t⟩:∃Z:Nat,Hid (Z=V+d%128*16384)/\bits .or .u64 (V:Int) ((d:Int)%128*16384)=(Z:Int):=⟨_,rfl,ox V d 16384 14 (by have:=p.o;omega) rfl (by omega)⟩;have b:=Y (jw Z (by rw[h];omega) q f (by rw[i]));have e:=Y (show 2<l.length by rw[h];omega);clear o;go_wp2
     ·go_ret2;exact⟨0,0,rfl,iC e c m ‹_› b (.inl ⟨‹_›,by omega⟩),rfl⟩
     ·go_ret2;exact⟨0,0,rfl,iC e c m ‹_› b (.inr ‹_›),rfl⟩
     ·go_ret2;exact⟨Z,3,by go_num,jg e (by omega) c f ‹_› (.inl ‹_›) b ‹_›,rfl⟩
     ·go_round
      case rel=>exact⟨3,Z,by omega,by omega,b,jv c f ‹_› r,rfl,rfl⟩
      case measure=>simp[intOf];omega
    ·obtain⟨Z,i,t⟩:∃Z:Nat,Hid (Z=V+d%128*2097152)/\bits .or .u64 (V:Int) ((d:Int)%128*2097152)=(Z:Int):=⟨_,rfl,ox V d 2097152 21 (by have:=p.o;omega) rfl (by omega)⟩;have b:=Y (jw Z (by rw[h];omega) q f (by rw[i]));have e:=Y (show 3<l.length by rw[h];omega);clear o;go_wp2
     ·go_ret2;exact⟨0,0,rfl,iC e c m ‹_› b (.inl ⟨‹_›,by omega⟩),rfl⟩
     ·go_ret2;exact⟨0,0,rfl,iC e c m ‹_› b (.inr ‹_›),rfl⟩
     ·go_ret2;exact⟨Z,4,by go_num,jg e (by omega) c f ‹_› (.inl ‹_›) b ‹_›,rfl⟩
     ·go_round
      case rel=>exact⟨4,Z,by omega,by omega,b,jv c f ‹_› r,rfl,rfl⟩
      case measure=>simp[intOf];omega
    ·obtain⟨Z,i,t⟩:∃Z:Nat,Hid (Z=V+d%128*268435456)/\bits .or .u64 (V:Int) ((d:Int)%128*268435456)=(Z:Int):=⟨_,rfl,ox V d 268435456 28 (by have:=p.o;omega) rfl (by omega)⟩;have b:=Y (jw Z (by rw[h];omega) q f (by rw[i]));have e:=Y (show 4<l.length by rw[h];omega);clear o;go_wp2
     ·go_ret2;exact⟨0,0,rfl,iC e c m ‹_› b (.inl ⟨‹_›,by omega⟩),rfl⟩
     ·go_ret2;exact⟨0,0,rfl,iC e c m ‹_› b (.inr ‹_›),rfl⟩
     ·go_ret2;exact⟨Z,5,by go_num,jg e (by omega) c f ‹_› (.inl ‹_›) b ‹_›,rfl⟩
     ·go_round
      case rel=>exact⟨5,Z,by omega,by omega,b,jv c f ‹_› r,rfl,rfl⟩
      case measure=>simp[intOf];omega
  ·have x:=Y (wR (by rw[h];omega) c (.inl (by rw[h];omega)));go_wp2;go_ret2;exact⟨0,0,rfl,x,rfl⟩
