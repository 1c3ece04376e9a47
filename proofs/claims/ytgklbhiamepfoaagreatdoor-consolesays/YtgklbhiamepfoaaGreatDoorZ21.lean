import Derived.Test.YtgklbhiamepfoaaGreatDoorZ13
import Derived.Test.YtgklbhiamepfoaaGreatDoorZ19
import Derived.Test.YtgklbhiamepfoaaGreatDoorZ20
set_option maxHeartbeats 16000000
set_option maxRecDepth 100000
namespace Go.Proofs.YtgklbhiamepfoaaGreatDoor
open Go renaming World->W_,Value->V_,Calls->C_,Addr->A_
open Go.RowKit renaming Hid->H_
open Go.Proofs.Tryz Mx
variable {w v z:W_}{g m c j h b:Nat}{l M H:List B8}{a q p:Option A_}{Z N E:Nat->Prop}{S A:Nat→Prop}{x y:Int}{X:List Pk}{W:Pk}{V:List Pt}{d:B8}{U:Bu}{T:TypeId}{R:Array V_}{Q:List Ep}{P:Pt}{O F:List (List B8)}{L:List V_}{K:Array MapEntry}{u:V_}{J:List Fr}{I:List Int}{G:Sd}
open Go.RowKit
section
open Go.ChangeMaps (setBlock)
structure Ex (S:Nat->Prop) (w w':W_):Prop extends Ext S w w' where
 os:w'.os=w.os
 tape:w'.tape=w.tape
 output:w'.output=w.output
theorem Ex.refl(S:Nat->Prop)(w:W_):Ex S w w:=⟨Ext.refl S w,rfl,rfl,rfl⟩
theorem Ex.trans{S:Nat->Prop}{w c b:W_}(h:Ex S w c)(a:Ex S c b):Ex S w b:=⟨h.toExt.trans a.toExt,a.os.trans h.os,a.tape.trans h.tape,a.output.trans h.output⟩
theorem Ex.mono{S a:Nat->Prop}{w c:W_}(h:Ex S w c)(hs:∀b,b<w.heap.size->S b->a b):Ex a w c:=⟨h.toExt.mono hs,h.os,h.tape,h.output⟩
theorem Ex.below{S:Nat->Prop}{w a:W_}(h:OS w a):Ex S w a:=⟨Ext.below h,h.os,h.tape,h.output⟩
theorem Ex.bx{S:Nat->Prop}{w b:W_}{g:Nat}{a:Array V_}{t:TypeId}(h:Ex S w b)(c:Bx w g a t)(hs:¬S g):Bx b g a t:=Ext.bx h.toExt c hs
theorem Ex.one{a:W_}(h:a.grownBy w (some g)):Ex (λb=>b=g) a w:=⟨⟨h.size,λb hb hn=>h.block b hb (λe=>hn (OG e))⟩,h.os,h.tape,h.output⟩
theorem Ex.chain(h1:Ex Z w v)(h2:Ex N v z)(d:∀b,b<w.heap.size->N b->Z b):Ex Z w z:=
 ⟨⟨OP h1.size h2.size,λb a c=>(h2.block b (OE a h1.size) (λt=>c (d b a t))).trans (h1.block b a c)⟩,h2.os.trans h1.os,h2.tape.trans h1.tape,h2.output.trans h1.output⟩
theorem Ex.toBelow_of{B:Nat}(h:Ex Z w v)(a:B<=w)(hs:∀b,Z b->B<=b):Below B w v:=⟨h.os,h.tape,h.output,h.size,λk c=>h.block k (by omega) (λe=>by have:=hs k e;omega)⟩
def dU(S:Nat->Prop):Nat->Prop:=λb=>¬S b
def Nby(w:W_)(b:Nat):Prop:=∀o,∃j,j<16/\∀v,w.cell? ⟨b,o+j,none⟩≠some (.int .u8 v)
theorem Nby.of(h:∀o v,w.cell? ⟨b,o,none⟩≠some (.int .u8 v)):Nby w b:=λo=>⟨0,by omega,λv=>h o v⟩
theorem Nby.same(h:Nby w b)(hc:∀o,v.cell? ⟨b,o,none⟩=w.cell? ⟨b,o,none⟩):Nby v b:=λo=>by
 have⟨j,c,a⟩:=h o;exact⟨j,c,λd=>by rw[hc];exact a d⟩
structure Mut (S:Nat->Prop) (w:W_):Prop where
 lt:∀b,S b->b<w.heap.size
 no:∀b,S b->Nby w b
theorem Mut.later{w w':W_}(h:Mut Z w)(a:OS w w'):Mut Z w':=
 ⟨λb hs=>OE (h.lt b hs) a.size,λb hs=>(h.no b hs).same λo=>a.cell (p:=(b,o)) (h.lt b hs)⟩
def km(cs:Array V_):Prop:=∀(j:Nat)(v:Int),cs[j]?≠some (.int .u8 v)
def j8:V_->Bool
 |.int .u8 _=>false
 |_=>true
theorem eA(h:L.all j8=true):km L.toArray:=λj v e=>by
 have a:L[j]?=Za v:=by simpa using e
 have h1:=Nm.1 h _ (OR a);cases h1
theorem Mut.eW(h:Mut Z w)(a:Ex (λb=>b=g) w v)(c:Bx v g R T)(d:km R):Mut Z v:=by
 refine⟨λb hs=>OE (h.lt b hs) a.size,λb hs=>?_⟩;by_cases e:b=g
 ·subst e;exact Nby.of λo f=>by rw[c.cell];exact d o f
 ·exact(h.no b hs).same λ_=>a.cell (h.lt b hs) e
theorem Mut.add(h:Mut Z w)(a:Bx w g R T)(c:km R):Mut (λb=>Z b\/b=g) w:=by
 refine⟨λb hs=>?_,λb hs=>?_⟩
 ·rcases hs with hs|rfl
  ·exact h.lt b hs
  ·exact a.lt
 ·rcases hs with hs|rfl
  ·exact h.no b hs
  ·exact Nby.of λo v=>by rw[a.cell];exact c o v
theorem Mut.none(w:W_):Mut (λ_=>False) w:=⟨λ_ h=>h.elim,λ_ h=>h.elim⟩
theorem wA(h:w.heap[m]?=some (.map K g))(o:Nat):w.cell? (m,o)=none:=by
 unfold World.cell?;rw[h]
theorem Mut.LH(h:Mut Z w)(a:w.heap[m]?=some (.map K g)):Mut (λb=>Z b\/b=m) w:=by
 refine⟨λb hs=>?_,λb hs=>?_⟩
 ·rcases hs with hs|rfl
  ·exact h.lt b hs
  ·exact(co.1 a).1
 ·rcases hs with hs|rfl
  ·exact h.no b hs
  ·exact Nby.of λo v=>by
    rw[wA a];intro e;cases e
theorem Mut.vJ(h:Mut Z w)(a:Ex (λb=>b=m) w v)(c:v.heap[m]?=some (.map K g)):Mut Z v:=by
 refine⟨λb hs=>OE (h.lt b hs) a.size,λb hs=>?_⟩;by_cases e:b=m
 ·subst e;exact Nby.of λo d=>by
   rw[wA c];intro e;cases e
 ·exact(h.no b hs).same λ_=>a.cell (h.lt b hs) e
def Wd(S S':Nat->Prop)(w:W_):Prop:=∀b,b<w.heap.size->S' b->S b
theorem Wd.refl(S:Nat->Prop)(w:W_):Wd S S w:=λ_ _ h=>h
theorem Wd.add(h:Wd Z N w)(c:w<=g):Wd Z (λb=>N b\/b=g) w:=λb a hs=>by
 rcases hs with hs|rfl
 ·exact h b a hs
 ·omega
theorem Wd.trans(h:Wd Z N w)(c:Wd N E v)(hs:w<=v.heap.size):Wd Z E w:=λb a h2=>h b a (c b (OE a hs) h2)
theorem BL.JL(o:BL w a g l)(z:Mut Z w)(h2:2<=g):Av (dU Z) a g:=λe A b hs=>by
 have⟨h1,r⟩:=o;have⟨p,x,u,_,hc⟩:=r.2.2 e;rw[u] at b;cases b
 have⟨j,B,f⟩:=z.no p hs x;have q:l[j/8]?=some (l[j/8]'(by omega)):=Ox _;have c:j%8<8:=Nat.mod_lt _ (by omega);have d:=dJ B8.cs (λ_=>rfl) l (j/8) _ q c;have m:∀(y:B8) (i:Nat),i<8->∃v,y.cs[i]?=Za v:=λy i s=>by
  match i,s with
  |0,_=>exact⟨_,rfl⟩
  |1,_=>exact⟨_,rfl⟩
  |2,_=>exact⟨_,rfl⟩
  |3,_=>exact⟨_,rfl⟩
  |4,_=>exact⟨_,rfl⟩
  |5,_=>exact⟨_,rfl⟩
  |6,_=>exact⟨_,rfl⟩
  |7,_=>exact⟨_,rfl⟩
 have⟨v,h⟩:=m (l[j/8]'(by omega)) (j%8) c;have t:j/8*8+j%8=j:=by omega
 rw[t,h] at d;exact f v (hc j _ d)
theorem dt.ltA(h:dt w a g m L):Av (λb=>b<w) a g:=λf p c=>by
 have⟨b,j,e,d,_⟩:=h.2.2 f;rw[e] at c;cases c
 exact d
theorem dt.ext(h:dt w a g m L)(d:Ex Z w v)(f:Av (dU Z) a g):dt v a g m L:=by
 refine⟨h.1,h.2.1,λc=>?_⟩;have⟨l,o,e,b,hc⟩:=h.2.2 c;refine⟨l,o,e,OE b d.size,λp u j=>?_⟩;rw[d.cell b (f c _ e)];exact hc p u j
def BLo(S:Nat->Prop)(w:W_)(a:Option A_)(n:Nat)(l:List B8):Prop:=BL w a n l/\Av (dU S) a n
def PLo(S:Nat->Prop)(w:W_)(a:Option A_)(n:Nat)(l:List Pt):Prop:=PL w a n l/\Av (dU S) a n
def Ino(S:Nat->Prop)(w:W_)(a:Option A_)(n:Nat)(l:List Int):Prop:=aD w a n l/\Av (dU S) a n
def Byo(S:Nat->Prop)(w:W_)(a:Option A_)(n:Nat)(l:List Int):Prop:=Bytes w a n l/\Av (dU S) a n
section
variable {n:Nat}
theorem Av.ext(h:Av (dU S) a n)(e:Av Z a n)(f:∀b,Z b->A b->S b):Av (dU A) a n:=λc p d hs=>h c p d (f _ (e c p d) hs)
theorem BLo.ext{l:List B8}(h:BLo S w a n l)(b:Ex S w v):BLo S v a n l:=⟨⟨h.1.1,h.1.2.ext b h.2⟩,h.2⟩
theorem PLo.ext{l:List Pt}(h:PLo S w a n l)(b:Ex S w v):PLo S v a n l:=⟨⟨h.1.1,h.1.2.ext b h.2⟩,h.2⟩
theorem Ino.ext{l:List Int}(h:Ino S w a n l)(b:Ex S w v):Ino S v a n l:=⟨h.1.ext b.toExt h.2 (λ_ _ c=>c),h.2⟩
theorem Byo.ext{l:List Int}(h:Byo S w a n l)(b:Ex S w v):Byo S v a n l:=⟨h.1.ext b.toExt h.2 (λ_ _ c=>c),h.2⟩
theorem BLo.wd{S':Nat→Prop}(h:BLo S w a n l)(d:Wd S S' w):BLo S' w a n l:=⟨h.1,h.2.ext h.1.2.ltA (λb c=>d b c)⟩
theorem PLo.wd{S':Nat→Prop}(h:PLo S w a n V)(d:Wd S S' w):PLo S' w a n V:=⟨h.1,h.2.ext h.1.2.ltA (λb c=>d b c)⟩
theorem Ino.wd{S':Nat→Prop}(h:Ino S w a n I)(d:Wd S S' w):Ino S' w a n I:=⟨h.1,h.2.ext h.1.lt_ (λb c=>d b c)⟩
theorem Byo.wd{S':Nat→Prop}(h:Byo S w a n I)(d:Wd S S' w):Byo S' w a n I:=⟨h.1,h.2.ext h.1.ltA (λb c=>d b c)⟩
theorem BLo.nil(S:Nat->Prop)(w:W_):BLo S w none 0 []:=⟨BL.nil w,λh=>absurd h (by omega)⟩
theorem PLo.nil(S:Nat->Prop)(w:W_):PLo S w none 0 []:=⟨PL.nil w,λh=>absurd h (by omega)⟩
theorem aD.nil(w:W_):aD w none 0 []:=⟨rfl,by rw[aG];omega,λh=>absurd h (by omega)⟩
theorem Ino.nil(S:Nat->Prop)(w:W_):Ino S w none 0 []:=⟨⟨rfl,by rw[aG];omega,λh=>absurd h (by omega)⟩,λh=>absurd h (by omega)⟩
theorem Av.new(c:Mut S w)(d:w<=g)(h:∀p,a=some p->g<=p.block):Av (dU S) a n:=λ_ p b hs=>by
 have h1:=c.lt _ hs;have h2:=h p b;omega
theorem ay.blo(h:ay v g (a,n,c) l)(f:Mut S w)(d:w<=g):BLo S v a n l/\n<=c:=by
 have⟨o,m,b,hc,j,e⟩:=aF h;cases b
 exact⟨⟨⟨rfl,j⟩,Av.new f d e⟩,hc⟩
theorem bt.plo(h:bt v g (a,n,c) V)(f:Mut S w)(d:w<=g):PLo S v a n V/\n<=c:=by
 have⟨m,l,b,hc,j,e⟩:=aF h;cases b
 exact⟨⟨⟨rfl,j⟩,Av.new f d e⟩,hc⟩
end
def ELF(P:Nat->Prop)(w:W_)(a:Option A_)(k:Nat)(es:List Ep):Prop:=
 es.length=k/\k<=maxLen/\(0<k->∃b off,a=some ⟨b,off,none⟩/\P b/\b<w.heap.size/\∀i e,es[i]?=some e->∃ai ni ci,w.cell? ⟨b,off+i*2,none⟩=Zb e.num/\w.cell? ⟨b,off+i*2+1,none⟩=some (.slice ai ni ci)/\PL w ai ni e.aR/\ni<=ci/\Av P ai ni)
theorem ELF.nil(P:Nat->Prop)(w:W_):ELF P w none 0 []:=⟨rfl,by rw[aG];omega,λh=>absurd h (by omega)⟩
theorem ELF.el(h:ELF Z w a g Q):EL w a g Q:=by
 have⟨h1,h2,o⟩:=h;refine⟨h1,h2,λd=>?_⟩;have⟨f,p,m,_,c,hc⟩:=o d;refine⟨f,p,m,c,λi j b=>?_⟩;have⟨l,e,q,c1,c2,c3,c4,_⟩:=hc i j b;exact⟨l,e,q,c1,c2,c3,c4⟩
theorem ELF.imp(l:ELF Z w a g Q)(f:∀b,b<w.heap.size->Z b->N b):ELF N w a g Q:=by
 have⟨h1,h2,s⟩:=l;refine⟨h1,h2,λc=>?_⟩;have⟨b,t,r,q,d,hc⟩:=s c;refine⟨b,t,r,f b d q,d,λi m h=>?_⟩;have⟨o,j,u,c1,c2,c3,c4,c5⟩:=hc i m h;exact⟨o,j,u,c1,c2,c3,c4,λe p c=>f _ (c3.2.ltA e p c) (c5 e p c)⟩
theorem ELF.ME(h:ELA g w a m Q)(c:∀b,b<w.heap.size->g<=b->Z b):ELF Z w a m Q:=by
 have h0:ELF (λb=>g<=b) w a m Q:=h;exact h0.imp c
theorem ELF.ext{S:Nat->Prop}{w e:W_}{d:Option A_}{k:Nat}{f:List Ep}(l:ELF (dU S) w d k f)(a:Ex S w e):ELF (dU S) e d k f:=by
 have⟨h1,h2,r⟩:=l;refine⟨h1,h2,λh=>?_⟩;have⟨m,s,q,c,b,hc⟩:=r h;refine⟨m,s,q,c,OE b a.size,λi o g=>?_⟩;have⟨p,j,t,c1,c2,c3,c4,c5⟩:=hc i o g;exact⟨p,j,t,(a.cell b c).trans c1,(a.cell b c).trans c2,⟨c3.1,c3.2.ext a c5⟩,c4,c5⟩
theorem ELF.wd{S':Nat->Prop}(h:ELF (dU Z) w a g Q)(e:Wd Z S' w):ELF (dU S') w a g Q:=h.imp λc b d hs=>d (e c b hs)
structure Buo (S:Nat->Prop) (w:W_) (oa:Option A_) (on oc:Nat) (sa:Option A_) (sn sc:Nat) (op:List Pt) (se:List Ep):Prop where
 op:PLo S w oa on op
 se:ELF (dU S) w sa sn se
 oc:on<=oc
 sc:sn<=sc
theorem Buo.nil(S:Nat->Prop)(w:W_):Buo S w none 0 0 none 0 0 [] []:=⟨PLo.nil S w,ELF.nil _ w,OJ _,OJ _⟩
theorem Buo.ext{S:Nat->Prop}{w l:W_}{b:Option A_}{m f:Nat}{a:Option A_}{g d:Nat}{c:List Pt}{j:List Ep}(h:Buo S w b m f a g d c j)(e:Ex S w l):Buo S l b m f a g d c j:=⟨h.op.ext e,h.se.ext e,h.oc,h.sc⟩
theorem Buo.wd{S S':Nat->Prop}{w:W_}{b:Option A_}{l e:Nat}{a:Option A_}{f d:Nat}{c:List Pt}{g:List Ep}(h:Buo S w b l e a f d c g)(j:Wd S S' w):Buo S' w b l e a f d c g:=⟨h.op.wd j,h.se.wd j,h.oc,h.sc⟩
theorem im.buo(o:im g v u U)(h:Mut Z w)(x:w<=g):∃c f d b e a,u=.agg #[U.num,.slice c f d,.slice b e a,Zl U.be]/\Buo Z v c f d b e a U.op U.se:=by
 have⟨c,f,d,b,e,a,m,h1,q,h2,s,t⟩:=o;refine⟨c,f,d,b,e,a,m,⟨h1,λj p l hs=>?_⟩,ELF.ME h2 (λU _ y hs=>?_),s,t⟩
 ·have r:=h.lt _ hs;have z:=q j p l;omega
 ·have r:=h.lt _ hs;omega
theorem FLF.sB(h:FLF (dU Z) w a g J)(b:Ex Z w v):FLF (dU Z) v a g J:=h.ext b.toExt (λ_ _ c=>c)
theorem FLF.wd{S':Nat->Prop}(h:FLF (dU Z) w a g J)(e:Wd Z S' w):FLF (dU S') w a g J:=h.imp λc b d hs=>d (e c b hs)
theorem SdA.sdo(h:SdA g v u G)(e:Mut Z w)(l:w<=g):∃c a b,u=.agg #[G.ses,G.base,.slice c a b]/\FLF (dU Z) v c a G.q/\a<=b:=by
 have⟨c,a,b,d,h1,h2⟩:=h;exact⟨c,a,b,d,FLF.Er h1 (λj _ f hs=>by have m:=e.lt _ hs;omega),h2⟩
def Nd(S:Nat->Prop)(w:W_)(g n:Nat)(bl:List B8)(a b:Int):Prop:=
 S g/\∃h ls sa sc pa pc,StW w g n h ls [] (-1) sa sc pa 0 pc/\Hd n h ls bl a b/\Av (dU S) sa (sz n)
theorem Nd.later{S:Nat->Prop}{w w':W_}{g n:Nat}{c:List B8}{a b:Int}(h:Nd S w g n c a b)(o:OS w w'):Nd S w' g n c a b:=by
 have⟨h0,h,e,l,d,j,f,h1,h2,m⟩:=h;exact⟨h0,h,e,l,d,j,f,h1.later o,h2,m⟩
theorem Nd.wd{S':Nat->Prop}(h:Nd Z w g m l x y)(p:Wd Z S' w)(b:S' g):Nd S' w g m l x y:=by
 have⟨h0,h,d,a,c,o,j,h1,h2,e⟩:=h;exact⟨b,h,d,a,c,o,j,h1,h2,e.ext h1.bl.2.ltA (λy f=>p y f)⟩
theorem Nd.ext{S T:Nat->Prop}{w e:W_}{g n:Nat}{bl:List B8}{d b:Int}(h:Nd S w g n bl d b)(c:Ex T w e)(t:∀b,T b->S b)(j:¬T g):Nd S e g n bl d b:=by
 have⟨h0,h,o,s,l,r,q,h1,h2,f⟩:=h;refine⟨h0,h,o,s,l,r,q,{h1 with bx:=?_,bl:=?_,pl:=?_},h2,f⟩
 ·exact Ex.bx c h1.bx j
 ·exact⟨h1.bl.1,h1.bl.2.ext c (λa p m u=>f a p m (t _ u))⟩
 ·refine⟨h1.pl.1,h1.pl.2.ext c (λa=>absurd a (by omega))⟩
theorem StW.other(hs:StW w g m h l [] x a j q 0 b)(e:Ex (λr=>r=c) w v)(s:Bx w c R T)(d:km R)(f:g≠c):StW v g m h l [] x a j q 0 b:=by
 have t:=(Mut.none w).add s d;refine {hs with bx:=Ex.bx e hs.bx f,bl:=⟨hs.bl.1,hs.bl.2.ext e ?_⟩,pl:=⟨hs.pl.1,hs.pl.2.ext e (λd=>absurd d (by omega))⟩};intro h0 p o u;exact BL.JL hs.bl t (by unfold sz;omega) h0 p o (.inr u)
theorem rG:km #[g,h,(a,m,c),(q,j,b),x]:=by
 intro d v
 match d with
 |0=>simp
 |1=>simp
 |2=>simp
 |3=>simp
 |4=>simp
 |d+5=>simp
theorem Nd.of{d:Nat}(hs:StW w d g h l [] (-1) a m q 0 c)(hd:Hd g h l M x y)(hm:Mut Z w)(hg:Z d):Nd Z w d g M x y:=
 ⟨hg,h,l,a,m,q,c,hs,hd,BL.JL hs.bl hm (by unfold sz;omega)⟩
def fE(S:Nat->Prop)(w w':W_)(g n:Nat)(bl:List B8)(a b:Int):Prop:=w<=g/\Mut (λb=>S b\/b=g) w'/\Nd (λb=>S b\/b=g) w' g n bl a b
theorem fE.of{S:Nat->Prop}{w a:W_}{g n h:Nat}{d bl:List B8}{c b:Int}{o:Option A_}{f:Nat}{m:Option A_}{p:Nat}(j:w<=g)(hs:StW a g n h d [] (-1) o f m 0 p)(hd:Hd n h d bl c b)(l:Mut S w)(e:OS w a):fE S w a g n bl c b:=by
 have h1:=(l.later e).add hs.bx rG;exact⟨j,h1,Nd.of hs hd h1 (.inr rfl)⟩
theorem fE.low(h:fE Z v z g m l x y)(a:w<=v.heap.size):fE Z w z g m l x y:=⟨OP a h.1,h.2⟩
theorem fE.later{S:Nat->Prop}{w w' a:W_}{g n:Nat}{c:List B8}{b d:Int}(h:fE S w w' g n c b d)(e:OS w' a):fE S w a g n c b d:=⟨h.1,h.2.1.later e,h.2.2.later e⟩
theorem Nd.box(h:Nd Z w g m l x y)(f:Ex (λy=>y=c) w v)(p:Bx w c R T)(d:km R)(b:g≠c):Nd Z v g m l x y:=by
 have⟨h0,h,j,a,e,r,q,h1,h2,o⟩:=h;exact⟨h0,h,j,a,e,r,q,h1.other f p d b,h2,o⟩
theorem Mut.off(h:Mut Z w)(a:Ex (λb=>b=g) w v)(c:¬Z g):Mut Z v:=
 ⟨λb hs=>OE (h.lt b hs) a.size,λb hs=>(h.no b hs).same λ_=>a.cell (h.lt b hs) (λe=>c (e▸hs))⟩
theorem fE.box{S:Nat->Prop}{w a c:W_}{g n x:Nat}{m:List B8}{d b:Int}{j:Array V_}{t:TypeId}(h:fE S w a g n m d b)(l:Ex (λb=>b=x) a c)(p:Bx a x j t)(o:km j)(f:g≠x)(hs:¬S x):fE S w c g n m d b:=
 ⟨h.1,h.2.1.off l (λe=>by rcases e with e|e;exact hs e;exact f e.symm),h.2.2.box l p o f⟩
end
namespace Mx
def eV(x:Int)(m:Nat):Int:=(if x<0 then -(x+1) else x)%(m:Int)
theorem iB{x:Int}(h:0<m):0<=eV x m/\eV x m<(m:Int):=⟨Int.emod_nonneg _ (by omega),Int.emod_lt_of_pos _ (by omega)⟩
end Mx
theorem nt(w:W_)(h0:-9223372036854775808<=x)(h1:x<=9223372036854775807)(j:0<m)(l:m<=1000000):
 C_ prog 153 #[x,m] w λe h=>e=Zv (Zb (eV x m))/\H_ (h=w):=by
 have c:¬(m:Int)=0:=by omega
 by_cases b:x<0
 ·have a:=Y (show eV x m=(-(x+1))%(m:Int) by unfold eV;rw[UY b]);have d:H_ (-(Int.tmod (x+1) (m:Int))=(-(x+1))%(m:Int)):=(by rw[<-Int.neg_tmod];exact TZ (by omega));rw[a];have f:0<=(-(x+1))%(m:Int):=Int.emod_nonneg _ c;have g:(-(x+1))%(m:Int)<(m:Int):=Int.emod_lt_of_pos _ (by omega);go_enter func153,ntmps153;go_wp2;exact UM (v:=.int .i64 (-(Int.tmod (x+1) (m:Int)))) (by simp[results,results153,go_sem]) rfl ⟨by rw[d],Y rfl⟩
 ·have a:=Y (show eV x m=x%(m:Int) by unfold eV;rw[UX b]);rw[a];have f:0<=x%(m:Int):=Int.emod_nonneg _ c;have g:x%(m:Int)<(m:Int):=Int.emod_lt_of_pos _ (by omega);go_enter func153,ntmps153;go_wp2;exact UM (by simp[results,results153,go_sem]) rfl ⟨rfl,Y rfl⟩
theorem vI(x:B8)(W:W_):(Op.equalIn 10000 65 x ()).run prog W=.ok (decide (x=zB)) W:=by
 have h:=fj x.z0 x.z1 x.z2 x.z3 x.z4 x.z5 x.z6 x.z7 0 0 0 0 0 0 0 0 W;have e:decide ([x.z0,x.z1,x.z2,x.z3,x.z4,x.z5,x.z6,x.z7]=[(0:Int),0,0,0,0,0,0,0])=decide (x=zB):=decide_eq_decide.2 (B8.eq_list x zB);rw[e] at h;exact h
theorem xJ:
 C_ prog 281 #[.agg #[],d] w λe b=>e=Zr #[.agg Zk,Zl (decide (d=zB))]/\OS w b:=by
 have a:=vI d;obtain⟨r,c⟩:∃r:Bool,H_ (r=decide (d=zB)):=⟨_,rfl⟩;rw[<-c] at a ⊢;go_enter func281,ntmps281;go_wp2;go_region;go_wp2;exact UM (by simp[results,results281,go_sem]) rfl ⟨rfl,(((af).alloc (by simp) _).alloc (by simp;omega) _).drew⟩
theorem pE(c:Nat)(x:B8)(h:BL w a g l):
 C_ prog 283 #[(a,g,c),x] w λt H=>t=Zr #[.agg #[Zi,Zi,Zb (dX l x),Zu,Zu,Zu,Zu,Zu,Zu,Zu,Zu],Zl (cn l x)]/\OS w H:=by
 have M:=Y h;clear h;have⟨j,e⟩:=ZX ((w.alloc (.cells x 65)).alloc (.cells Zk 109));have z:H_ (OS w j):=(by rw[e];exact(af).alloc (by simp) _);have s:=Y (show Bx j (w+1) Zk 109 by
  rw[e];have A:=Bx.new (w.alloc (.cells x 65)) Zk 109;rw[dl] at A;exact A)
 go_enter func283,ntmps283;go_wp2_with fail;rw[<-e];refine(Hh (c:=c) (d:=x) (M.later z)).mono ?_;rintro t y ⟨rfl,b⟩;have f:=Y (s.later b s.lt);have K:=Y (z.t b);clear b;have⟨F,o⟩:=ZX (dX l x);obtain⟨r,u⟩:∃r:Bool,H_ (r=cn l x):=⟨_,rfl⟩;rw[<-o,<-u];have rz:=f.frozen;have⟨X,q1,q2,q3,Z,U,W,q7,q8,q9,V⟩:=Bx.cE (p:=⟨0,0,0,zB⟩) f;go_wp2_with fail;change bodyPost prog Tryz.f283 _ _ _ (bU y (w+1) ⟨0,0,F,zB⟩);have B:=Y (dG (q:=⟨0,0,0,zB⟩) f ⟨0,0,F,zB⟩);have C:=Y (bh K (by omega:w<=w.heap.size+1) ⟨0,0,F,zB⟩);have⟨T,N⟩:=ZX (bU y (w+1) ⟨0,0,F,zB⟩);rw[<-N] at B C ⊢;have⟨R,E,O,J,G,P,I,Q,L,D,S⟩:=Bx.cE (p:=⟨0,0,F,zB⟩) B;exact UM (v:=.tuple #[.agg #[Zi,Zi,F,Zu,Zu,Zu,Zu,Zu,Zu,Zu,Zu],Zl r]) (by simp[results,results283,go_sem,R,E,O,J,G,P,I,Q,L,D,S,zB]) rfl ⟨by rw[o,u],C⟩
theorem xI:
 C_ prog 286 #[.agg #[],d] w λe a=>e=Zr #[.agg (Zp 0 0 0 d),Zl true]/\OS w a:=by
 go_enter func286,ntmps286;go_wp2;exact UM (by simp[results,results286,go_sem]) rfl ⟨rfl,((af).alloc (by simp) _).alloc (by simp;omega) _⟩
theorem Jq(W:W_):(Instr.index 141 (.agg #[.iface 177 (.agg #[]),.iface 178 (a,g,c),.iface 178 (q,m,j),.iface 179 (.agg #[])]) (Zb 0)).run prog W=.ok (.iface 177 (.agg #[])) W:=by kernel_rfl
theorem Jr(W:W_):(Instr.index 141 (.agg #[.iface 177 (.agg #[]),.iface 178 (a,g,c),.iface 178 (q,m,j),.iface 179 (.agg #[])]) (Zb 1)).run prog W=.ok (.iface 178 (a,g,c)) W:=by kernel_rfl
theorem Js(W:W_):(Instr.index 141 (.agg #[.iface 177 (.agg #[]),.iface 178 (a,g,c),.iface 178 (q,m,j),.iface 179 (.agg #[])]) (Zb 2)).run prog W=.ok (.iface 178 (q,m,j)) W:=by kernel_rfl
theorem Jt(W:W_):(Instr.index 141 (.agg #[.iface 177 (.agg #[]),.iface 178 (a,g,c),.iface 178 (q,m,j),.iface 179 (.agg #[])]) (Zb 3)).run prog W=.ok (.iface 179 (.agg #[])) W:=by kernel_rfl
def Mx.cy(p:Pt)(peer had:List B8):Pk:=
 if p.d=zB then⟨p.at_,0,0,zB⟩ else if cn peer p.d=true then⟨p.at_,1,dX peer p.d,zB⟩ else if cn had p.d=true then⟨p.at_,2,dX had p.d,zB⟩ else⟨p.at_,3,0,p.d⟩
theorem qH(h:Bx w g (Pk.arr ⟨0,0,x,d⟩) T)(A K:Int):Bx (bU ((w.setCell g (Zb A)).setCell (g,1) (Zb K)) g ⟨A,K,x,d⟩) g (Pk.arr ⟨A,K,x,d⟩) T:=by
 have h2:=(h.set 0 (Zb A)).set 1 (Zb K);have e:((Pk.arr ⟨0,0,x,d⟩).setIfInBounds 0 (Zb A)).setIfInBounds 1 (Zb K)=Pk.arr ⟨A,K,x,d⟩:=by simp[Pk.arr]
 rw[e] at h2;exact dG h2 _
theorem Bp(hp:BL w a g l)(hh:BL w q m M):
 C_ prog 80 #[.agg #[.iface 177 (.agg #[]),.iface 178 (a,g,c),.iface 178 (q,m,j),.iface 179 (.agg #[])],.agg (Zq P.at_ P.d)] w λag w'=>∃R:Pk,R=cy P l M/\ag=Zv (.agg (Zp R.at_ R.kind R.from_ R.d))/\H_ (OS w w'):=by
 have HP:=Y hp;have HH:=Y hh;clear hp hh;have⟨w0,ai⟩:=ZX (((w.alloc (.cells #[.iface 177 (.agg #[]),.iface 178 (a,g,c),.iface 178 (q,m,j),.iface 179 (.agg #[])] 141)).alloc (.cells (Zq P.at_ P.d) 123)).alloc (.cells Zk 109));have B0:=Y (show OS w w0 by rw[ai];exact((af).alloc (by simp) _).alloc (by simp;omega) _);have P0:=Y (show Bx w0 (w+1) (Zq P.at_ P.d) 123 by
  rw[ai];have z:=(Bx.new (w.alloc (.cells #[.iface 177 (.agg #[]),.iface 178 (a,g,c),.iface 178 (q,m,j),.iface 179 (.agg #[])] 141)) (Zq P.at_ P.d) 123).alloc (.cells Zk 109);rw[dl] at z;exact z)
 have R0:=Y (show Bx w0 (w+2) (Pk.arr ⟨0,0,0,zB⟩) 109 by
  rw[ai];have z:=Bx.new ((w.alloc (.cells #[.iface 177 (.agg #[]),.iface 178 (a,g,c),.iface 178 (q,m,j),.iface 179 (.agg #[])] 141)).alloc (.cells (Zq P.at_ P.d) 123)) Zk 109;rw[World.size_alloc,World.size_alloc] at z;exact z)
 go_enter func80,ntmps80;go_wp2;rw[<-ai];go_loopw [9] (λaj wr=>∃ (k:Nat) (R:Pk),aj=Zb (k:Int)/\k<=3/\H_ (0<k->¬P.d=zB)/\H_ (1<k->¬cn l P.d=true)/\H_ (2<k->¬cn M P.d=true)/\H_ (Bx wr (w+1) (Zq P.at_ P.d) 123)/\H_ (Bx wr (w+2) R.arr 109)/\H_ (OS w wr)) (λaj _=>4-(intOf aj).toNat)
 case atStart=>exact⟨0,_,rfl,by omega,λz=>absurd z (by omega),λz=>absurd z (by omega),λz=>absurd z (by omega),P0,R0,B0⟩
 case round =>
  obtain⟨k,R,rfl,hk,h0,h1,h2,x,V,hB⟩:=hrel;have⟨p0,p1,p2,p3,p4,p5,p6,p7,p8⟩:=(show wr.cell? ⟨w+1,0,none⟩=Zb P.at_/\wr.cell? ⟨w+1,1,none⟩=Za P.d.z0/\wr.cell? ⟨w+1,2,none⟩=Za P.d.z1/\wr.cell? ⟨w+1,3,none⟩=Za P.d.z2/\wr.cell? ⟨w+1,4,none⟩=Za P.d.z3/\wr.cell? ⟨w+1,5,none⟩=Za P.d.z4/\wr.cell? ⟨w+1,6,none⟩=Za P.d.z5/\wr.cell? ⟨w+1,7,none⟩=Za P.d.z6/\wr.cell? ⟨w+1,8,none⟩=Za P.d.z7 from⟨x.cell 0,x.cell 1,x.cell 2,x.cell 3,x.cell 4,x.cell 5,x.cell 6,x.cell 7,x.cell 8⟩);have aq:=Jq (a:=a) (q:=q) (g:=g) (c:=c) (m:=m) (j:=j);have an:=Jr (a:=a) (q:=q) (g:=g) (c:=c) (m:=m) (j:=j);have ap:=Js (a:=a) (q:=q) (g:=g) (c:=c) (m:=m) (j:=j);have ak:=Jt (a:=a) (q:=q) (g:=g) (c:=c) (m:=m) (j:=j);have am : ∀ W : W_, (method 516 177 (.agg #[]) "stillwater/plan.tell").run prog W = .ok (281, .agg #[]) W := λ_ => by kernel_rfl
  have al : ∀ (a : Option A_) (g c : Nat) (W : W_), (method 516 178 (a,g,c) "stillwater/plan.tell").run prog W = .ok (283, (a,g,c)) W := λ_ _ _ _ => by kernel_rfl
  have ao : ∀ W : W_, (method 516 179 (.agg #[]) "stillwater/plan.tell").run prog W = .ok (286, .agg #[]) W := λ_ => by kernel_rfl
  rcases(show k=0\/k=1\/k=2\/k=3 by omega) with rfl|rfl|rfl|rfl
  ·go_wp2_with fail;refine(xJ (d:=P.d) (w:=wr)).mono ?_;rintro ag y ⟨rfl,s⟩;have h:=Y (x.later s x.lt);have f:=Y (V.later s V.lt);have u:=Y (hB.t s);clear s p0 p1 p2 p3 p4 p5 p6 p7 p8;have G:=h.cell 0;have O:=f.frozen;have⟨E,L,N,K,B,C,A,H,I,J,D⟩:=Bx.cE f;by_cases o:P.d=zB
   ·rw[show decide (P.d=zB)=true from UR o];have U:=Y o;clear o;dsimp only;iterate 12 (first|go_step|skip)
    have⟨t,Q⟩:=ZX (bU y (w+1+1) ⟨0,0,0,zB⟩);have r:=Y (h.later (bh (ce (w+2) y) (OJ _) ⟨0,0,0,zB⟩) (by omega));have e:=Y (dG f ⟨0,0,0,zB⟩);have p:=Y (bh u (by omega:w<=w.heap.size+2) ⟨0,0,0,zB⟩);have b:=Q.o;rw[<-b] at r e p;dsimp only[bU,zB] at b;rw[<-b];clear b G O E L N K B C A H I J D f h u;have G:t.cell? ⟨w+1,0,none⟩=Zb P.at_:=r.cell 0;have O:=e.frozen;have⟨E,L,N,K,B,C,A,H,I,J,D⟩:=Bx.cE e;go_wp2;change bodyPost prog Tryz.f80 _ _ _ (bU ((t.setCell ⟨w+2,0,none⟩ (Zb P.at_)).setCell ⟨w+2,1,none⟩ (Zb 0)) (w+2) ⟨P.at_,0,0,zB⟩);have S:=Y (qH e P.at_ 0);have T:=Y (bh ((p.setCell (p:=⟨w+2,0,none⟩) (by simp) (Zb P.at_)).setCell (p:=⟨w+2,1,none⟩) (by simp) (Zb 0)) (by omega:w<=w.heap.size+2) ⟨P.at_,0,0,zB⟩);have⟨w3,ab⟩:=ZX (bU ((t.setCell ⟨w+2,0,none⟩ (Zb P.at_)).setCell ⟨w+2,1,none⟩ (Zb 0)) (w+2) ⟨P.at_,0,0,zB⟩);rw[<-ab] at S T ⊢;have⟨s0,s1,s2,s3,Z,s5,s6,s7,s8,X,ae⟩:=Bx.cE S;have ad:cy P l M=⟨P.at_,0,0,zB⟩:=by rw[cy,UY U.o]
    exact UM (v:=.agg #[P.at_,Zi,Zi,.int .u8 zB.z0,.int .u8 zB.z1,.int .u8 zB.z2,.int .u8 zB.z3,.int .u8 zB.z4,.int .u8 zB.z5,.int .u8 zB.z6,.int .u8 zB.z7]) (by simp[results,results80,go_sem,s0,s1,s2,s3,Z,s5,s6,s7,s8,X,ae]) rfl ⟨by rw[ad],T⟩
   ·rw[show decide (P.d=zB)=false from UQ o];have U:=Y o;clear o;dsimp only;iterate 12 (first|go_step|skip)
    have⟨t,Q⟩:=ZX (bU y (w+1+1) ⟨0,0,0,zB⟩);have r:=Y (h.later (bh (ce (w+2) y) (OJ _) ⟨0,0,0,zB⟩) (by omega));have e:=Y (dG f ⟨0,0,0,zB⟩);have p:=Y (bh u (by omega:w<=w.heap.size+2) ⟨0,0,0,zB⟩);have b:=Q.o;rw[<-b] at r e p;dsimp only[bU,zB] at b;rw[<-b];clear b G O E L N K B C A H I J D f h u;go_wp2;go_roundw
    case rel=>exact⟨1,_,by go_num,by omega,Y (λ_=>U),Y (λz=>absurd z (by omega)),Y (λz=>absurd z (by omega)),r,e,p⟩
    case measure=>simp[intOf]
  ·go_wp2_with fail;refine(pE c P.d (HP.later hB)).mono ?_;rintro ag y ⟨rfl,s⟩;have h:=Y (x.later s x.lt);have f:=Y (V.later s V.lt);have u:=Y (hB.t s);clear s p0 p1 p2 p3 p4 p5 p6 p7 p8;have G:=h.cell 0;have O:=f.frozen;have⟨E,L,N,K,B,C,A,H,I,J,D⟩:=Bx.cE f;have⟨F,hF⟩:=ZX (dX l P.d);rw[<-hF];by_cases o:cn l P.d=true
   ·rw[o];have U:=Y o;clear o;dsimp only;iterate 12 (first|go_step|skip)
    have⟨t,Q⟩:=ZX (bU y (w+1+1) ⟨0,0,F,zB⟩);have r:=Y (h.later (bh (ce (w+2) y) (OJ _) ⟨0,0,F,zB⟩) (by omega));have e:=Y (dG f ⟨0,0,F,zB⟩);have p:=Y (bh u (by omega:w<=w.heap.size+2) ⟨0,0,F,zB⟩);have b:=Q.o;rw[<-b] at r e p;dsimp only[bU,zB] at b;rw[<-b];clear b G O E L N K B C A H I J D f h u;have G:t.cell? ⟨w+1,0,none⟩=Zb P.at_:=r.cell 0;have O:=e.frozen;have⟨E,L,N,K,B,C,A,H,I,J,D⟩:=Bx.cE e;go_wp2;change bodyPost prog Tryz.f80 _ _ _ (bU ((t.setCell ⟨w+2,0,none⟩ (Zb P.at_)).setCell ⟨w+2,1,none⟩ (Zb 1)) (w+2) ⟨P.at_,1,F,zB⟩);have S:=Y (qH e P.at_ 1);have T:=Y (bh ((p.setCell (p:=⟨w+2,0,none⟩) (by simp) (Zb P.at_)).setCell (p:=⟨w+2,1,none⟩) (by simp) (Zb 1)) (by omega:w<=w.heap.size+2) ⟨P.at_,1,F,zB⟩);have⟨w3,ab⟩:=ZX (bU ((t.setCell ⟨w+2,0,none⟩ (Zb P.at_)).setCell ⟨w+2,1,none⟩ (Zb 1)) (w+2) ⟨P.at_,1,F,zB⟩);rw[<-ab] at S T ⊢;have⟨s0,s1,s2,s3,Z,s5,s6,s7,s8,X,ae⟩:=Bx.cE S;have ad:cy P l M=⟨P.at_,1,F,zB⟩:=by rw[cy,UX (h0.o (by omega)),UY U.o,hF]
    exact UM (v:=.agg #[P.at_,.int .i64 1,F,.int .u8 zB.z0,.int .u8 zB.z1,.int .u8 zB.z2,.int .u8 zB.z3,.int .u8 zB.z4,.int .u8 zB.z5,.int .u8 zB.z6,.int .u8 zB.z7]) (by simp[results,results80,go_sem,s0,s1,s2,s3,Z,s5,s6,s7,s8,X,ae]) rfl ⟨by rw[ad],T⟩
   ·rw[show cn l P.d=false from Bool.eq_false_iff.mpr o];have U:=Y o;clear o;dsimp only;iterate 12 (first|go_step|skip)
    have⟨t,Q⟩:=ZX (bU y (w+1+1) ⟨0,0,F,zB⟩);have r:=Y (h.later (bh (ce (w+2) y) (OJ _) ⟨0,0,F,zB⟩) (by omega));have e:=Y (dG f ⟨0,0,F,zB⟩);have p:=Y (bh u (by omega:w<=w.heap.size+2) ⟨0,0,F,zB⟩);have b:=Q.o;rw[<-b] at r e p;dsimp only[bU,zB] at b;rw[<-b];clear b G O E L N K B C A H I J D f h u;go_wp2;go_roundw
    case rel=>exact⟨2,_,by go_num,by omega,Y (λ_=>h0 (by omega)),Y (λ_=>U),Y (λz=>absurd z (by omega)),r,e,p⟩
    case measure=>simp[intOf]
  ·go_wp2_with fail;refine(pE j P.d (HH.later hB)).mono ?_;rintro ag y ⟨rfl,s⟩;have h:=Y (x.later s x.lt);have f:=Y (V.later s V.lt);have u:=Y (hB.t s);clear s p0 p1 p2 p3 p4 p5 p6 p7 p8;have G:=h.cell 0;have O:=f.frozen;have⟨E,L,N,K,B,C,A,H,I,J,D⟩:=Bx.cE f;have⟨F,hF⟩:=ZX (dX M P.d);rw[<-hF];by_cases o:cn M P.d=true
   ·rw[o];have U:=Y o;clear o;dsimp only;iterate 12 (first|go_step|skip)
    have⟨t,Q⟩:=ZX (bU y (w+1+1) ⟨0,0,F,zB⟩);have r:=Y (h.later (bh (ce (w+2) y) (OJ _) ⟨0,0,F,zB⟩) (by omega));have e:=Y (dG f ⟨0,0,F,zB⟩);have p:=Y (bh u (by omega:w<=w.heap.size+2) ⟨0,0,F,zB⟩);have b:=Q.o;rw[<-b] at r e p;dsimp only[bU,zB] at b;rw[<-b];clear b G O E L N K B C A H I J D f h u;have G:t.cell? ⟨w+1,0,none⟩=Zb P.at_:=r.cell 0;have O:=e.frozen;have⟨E,L,N,K,B,C,A,H,I,J,D⟩:=Bx.cE e;go_wp2;change bodyPost prog Tryz.f80 _ _ _ (bU ((t.setCell ⟨w+2,0,none⟩ (Zb P.at_)).setCell ⟨w+2,1,none⟩ (Zb 2)) (w+2) ⟨P.at_,2,F,zB⟩);have S:=Y (qH e P.at_ 2);have T:=Y (bh ((p.setCell (p:=⟨w+2,0,none⟩) (by simp) (Zb P.at_)).setCell (p:=⟨w+2,1,none⟩) (by simp) (Zb 2)) (by omega:w<=w.heap.size+2) ⟨P.at_,2,F,zB⟩);have⟨w3,ab⟩:=ZX (bU ((t.setCell ⟨w+2,0,none⟩ (Zb P.at_)).setCell ⟨w+2,1,none⟩ (Zb 2)) (w+2) ⟨P.at_,2,F,zB⟩);rw[<-ab] at S T ⊢;have⟨s0,s1,s2,s3,Z,s5,s6,s7,s8,X,ae⟩:=Bx.cE S;have ad:cy P l M=⟨P.at_,2,F,zB⟩:=by rw[cy,UX (h0.o (by omega)),UX (h1.o (by omega)),UY U.o,hF]
    exact UM (v:=.agg #[P.at_,.int .i64 2,F,.int .u8 zB.z0,.int .u8 zB.z1,.int .u8 zB.z2,.int .u8 zB.z3,.int .u8 zB.z4,.int .u8 zB.z5,.int .u8 zB.z6,.int .u8 zB.z7]) (by simp[results,results80,go_sem,s0,s1,s2,s3,Z,s5,s6,s7,s8,X,ae]) rfl ⟨by rw[ad],T⟩
   ·rw[show cn M P.d=false from Bool.eq_false_iff.mpr o];have U:=Y o;clear o;dsimp only;iterate 12 (first|go_step|skip)
    have⟨t,Q⟩:=ZX (bU y (w+1+1) ⟨0,0,F,zB⟩);have r:=Y (h.later (bh (ce (w+2) y) (OJ _) ⟨0,0,F,zB⟩) (by omega));have e:=Y (dG f ⟨0,0,F,zB⟩);have p:=Y (bh u (by omega:w<=w.heap.size+2) ⟨0,0,F,zB⟩);have b:=Q.o;rw[<-b] at r e p;dsimp only[bU,zB] at b;rw[<-b];clear b G O E L N K B C A H I J D f h u;go_wp2;go_roundw
    case rel=>exact⟨3,_,by go_num,by omega,Y (λ_=>h0 (by omega)),Y (λ_=>h1 (by omega)),Y (λ_=>U),r,e,p⟩
    case measure=>simp[intOf]
  ·go_wp2_with fail;refine(xI (d:=P.d) (w:=wr)).mono ?_;rintro ag y ⟨rfl,s⟩;have h:=Y (x.later s x.lt);have f:=Y (V.later s V.lt);have u:=Y (hB.t s);clear s p0 p1 p2 p3 p4 p5 p6 p7 p8;have G:=h.cell 0;have O:=f.frozen;have⟨E,L,N,K,B,C,A,H,I,J,D⟩:=Bx.cE f;dsimp only;iterate 12 (first|go_step|skip)
   have⟨t,Q⟩:=ZX (bU y (w+1+1) ⟨0,0,0,P.d⟩);have r:=Y (h.later (bh (ce (w+2) y) (OJ _) ⟨0,0,0,P.d⟩) (by omega));have e:=Y (dG f ⟨0,0,0,P.d⟩);have p:=Y (bh u (by omega:w<=w.heap.size+2) ⟨0,0,0,P.d⟩);have b:=Q.o;rw[<-b] at r e p;dsimp only[bU,zB] at b;rw[<-b];clear b G O E L N K B C A H I J D f h u;have G:t.cell? ⟨w+1,0,none⟩=Zb P.at_:=r.cell 0;have O:=e.frozen;have⟨E,L,N,K,B,C,A,H,I,J,D⟩:=Bx.cE e;go_wp2;change bodyPost prog Tryz.f80 _ _ _ (bU ((t.setCell ⟨w+2,0,none⟩ (Zb P.at_)).setCell ⟨w+2,1,none⟩ (Zb 3)) (w+2) ⟨P.at_,3,0,P.d⟩);have S:=Y (qH e P.at_ 3);have T:=Y (bh ((p.setCell (p:=⟨w+2,0,none⟩) (by simp) (Zb P.at_)).setCell (p:=⟨w+2,1,none⟩) (by simp) (Zb 3)) (by omega:w<=w.heap.size+2) ⟨P.at_,3,0,P.d⟩);have⟨w3,ab⟩:=ZX (bU ((t.setCell ⟨w+2,0,none⟩ (Zb P.at_)).setCell ⟨w+2,1,none⟩ (Zb 3)) (w+2) ⟨P.at_,3,0,P.d⟩);rw[<-ab] at S T ⊢;have⟨s0,s1,s2,s3,Z,s5,s6,s7,s8,X,ae⟩:=Bx.cE S;have ad:cy P l M=⟨P.at_,3,0,P.d⟩:=by rw[cy,UX (h0.o (by omega)),UX (h1.o (by omega)),UX (h2.o (by omega))]
   exact UM (v:=.agg #[P.at_,.int .i64 3,Zi,.int .u8 P.d.z0,.int .u8 P.d.z1,.int .u8 P.d.z2,.int .u8 P.d.z3,.int .u8 P.d.z4,.int .u8 P.d.z5,.int .u8 P.d.z6,.int .u8 P.d.z7]) (by simp[results,results80,go_sem,s0,s1,s2,s3,Z,s5,s6,s7,s8,X,ae]) rfl ⟨by rw[ad],T⟩
theorem sg(d c:Option A_)(n e b a:Nat)(w:W_):
 C_ prog 79 #[(d,n,e),(c,b,a)] w λf g=>f=Zv (.agg #[.iface 177 (.agg #[]),.iface 178 (d,n,e),.iface 178 (c,b,a),.iface 179 (.agg #[])])/\OS w g:=by
 go_enter func79,ntmps79;go_wp2;exact UM (by simp[results,results79,go_sem]) rfl ⟨rfl,af⟩
theorem uB(f:BL w a g l)(L:h<g)(hs:l[h]?=d):
 C_ prog 66 #[.agg (Zq h d),(a,g,c),(q,m,j)] w λF B=>F=Zr #[.agg Zk,Zl false]/\OS w B:=by
 have Q:g<=maxLen:=f.2.2.1;unfold maxLen at Q;have J:=Y hs;have⟨b,e⟩:=ZX ((w.alloc (.cells (Zq h d) 123)).alloc (.cells Zk 109));have G:H_ (OS w b):=(by rw[e];exact(af).alloc (by simp) _);have X:=Y (show Bx b w (Zq h d) 123 by
  rw[e];exact(Bx.new w (Zq h d) 123).alloc (.cells Zk 109))
 have D:=Y (show Bx b (w+1) (Pk.arr ⟨0,0,0,zB⟩) 109 by
  rw[e];have r:=Bx.new (w.alloc (.cells (Zq h d) 123)) Zk 109;rw[dl] at r;exact r)
 obtain⟨Z,ab,y,rfl,U,o,e0,S,W,e3,V,T,e6,e7⟩:=f.at_ h L;have z:H_ (y=d):=(by rw[J] at o;exact(OG o).symm);have u:=fj y.z0 y.z1 y.z2 y.z3 y.z4 y.z5 y.z6 y.z7 d.z0 d.z1 d.z2 d.z3 d.z4 d.z5 d.z6 d.z7;rw[UR ((B8.eq_list y d).2 z)] at u;go_enter func66,ntmps66;go_wp2;go_quiet (fail);go_wp2;rw[<-e];change bodyPost prog Tryz.f66 _ _ _ (bU (b.drewN nq) (w+1) ⟨0,0,0,zB⟩);have s:=Y (dG (D.drewN nq) ⟨0,0,0,zB⟩);have t:=Y (bh (below_drewN G nq) (by omega:w<=w.heap.size+1) ⟨0,0,0,zB⟩);have⟨R,I⟩:=ZX (bU (b.drewN nq) (w+1) ⟨0,0,0,zB⟩);rw[<-I] at s t ⊢;have⟨O,x,K,E,A,M,C,N,H,v,P⟩:=Bx.cE (p:=⟨0,0,0,zB⟩) s;exact UM (by simp[results,results66,go_sem,O,x,K,E,A,M,C,N,H,v,P,zB]) rfl ⟨rfl,t⟩
theorem sK(e t:List B8)(d:B8)(W:BL w a g e)(hk:h<g)(hh:BL w q m t)(hs:¬e[h]?=d):
 C_ prog 66 #[.agg (Zq h d),(a,g,c),(q,m,j)] w λE w'=>∃U:Pk,U=cy ⟨h,d⟩ e t/\E=Zr #[.agg (Zp U.at_ U.kind U.from_ U.d),Zl true]/\H_ (OS w w'):=by
 have ak:g<=maxLen:=W.2.2.1;unfold maxLen at ak;have HS:=Y hs;clear hs;have⟨Q,T⟩:=ZX ((w.alloc (.cells (Zq h d) 123)).alloc (.cells Zk 109));have B0:H_ (OS w Q):=(by rw[T];exact(af).alloc (by simp) _);have P0:=Y (show Bx Q w (Zq h d) 123 by
  rw[T];exact(Bx.new w (Zq h d) 123).alloc (.cells Zk 109))
 have R0:=Y (show Bx Q (w+1) (Pk.arr ⟨0,0,0,zB⟩) 109 by
  rw[T];have ag:=Bx.new (w.alloc (.cells (Zq h d) 123)) Zk 109;rw[dl] at ag;exact ag)
 obtain⟨am,an,y,rfl,u,hy,e0,e1,e2,e3,e4,e5,e6,e7⟩:=W.at_ h hk;have HY:H_ (¬y=d):=λE=>HS (by rw[hy,E]);clear hy;have ai:=fj y.z0 y.z1 y.z2 y.z3 y.z4 y.z5 y.z6 y.z7 d.z0 d.z1 d.z2 d.z3 d.z4 d.z5 d.z6 d.z7;rw[UQ (λE=>HY ((B8.eq_list y d).1 E))] at ai;have HP:=Y W;have HH:=Y hh;clear W hh;have ad:=vI d;go_enter func66,ntmps66;by_cases P:d=zB
 ·rw[UR P] at ad;have V:=Y P;clear P;go_wp2_with fail;go_quiet (fail);go_wp2_with fail;rw[<-T];change bodyPost prog Tryz.f66 _ _ _ (bU (Q.drewN nq) (w+1) ⟨(h:Int),0,0,zB⟩);have r:=Y (dG (R0.drewN nq) ⟨(h:Int),0,0,zB⟩);have o:=Y (bh (below_drewN B0 nq) (by omega:w<=w.heap.size+1) ⟨(h:Int),0,0,zB⟩);have⟨w9,L⟩:=ZX (bU (Q.drewN nq) (w+1) ⟨(h:Int),0,0,zB⟩);rw[<-L] at r o ⊢;have⟨N,H,F,I,C,M,D,G,K,B,O⟩:=Bx.cE r;have J:cy ⟨h,d⟩ e t=⟨(h:Int),0,0,zB⟩:=by rw[cy,UY V.o]
  exact UM (v:=.tuple #[.agg (Zp h 0 0 zB),Zl true]) (by simp[results,results66,go_sem,N,H,F,I,C,M,D,G,K,B,O]) rfl ⟨_,rfl,by rw[J],o⟩
 ·rw[UQ P] at ad;have V:=Y P;clear P;go_wp2_with fail;go_quiet (fail);go_wp2_with fail;rw[<-T];have P1:=Y (P0.drewN nq);have R1:=Y (R0.drewN nq);have B1:=Y (below_drewN B0 nq);have⟨w1,al⟩:=ZX (Q.drewN nq);rw[<-al] at P1 R1 B1 ⊢;refine(tr c d (HP.later B1)).mono ?_;rintro E f ⟨rfl,u⟩;have s:=Y (P1.later u P1.lt);have R:=Y (R1.later u R1.lt);have B2:=Y (B1.t u);clear u;obtain⟨A,S⟩:∃ab:Int,H_ (ab=dI e d):=⟨_,rfl⟩;rw[<-S];have aj:=R.frozen;have⟨p0,p1,p2,p3,p4,p5,p6,p7,p8⟩:=(show f.cell? w=Zb (h:Int)/\f.cell? (w,1)=Za d.z0/\f.cell? (w,2)=Za d.z1/\f.cell? (w,3)=Za d.z2/\f.cell? (w,4)=Za d.z3/\f.cell? (w,5)=Za d.z4/\f.cell? (w,6)=Za d.z5/\f.cell? (w,7)=Za d.z6/\f.cell? (w,8)=Za d.z7 from⟨s.cell 0,s.cell 1,s.cell 2,s.cell 3,s.cell 4,s.cell 5,s.cell 6,s.cell 7,s.cell 8⟩);have⟨q0,q1,q2,q3,q4,q5,q6,q7,q8,q9,ae⟩:=Bx.cE (p:=⟨0,0,0,zB⟩) R;by_cases h2:0<=A
  ·go_wp2_with fail;change bodyPost prog Tryz.f66 _ _ _ (bU f (w+1) ⟨(h:Int),1,A,zB⟩);have r:=Y (dG R ⟨(h:Int),1,A,zB⟩);have o:=Y (bh B2 (by omega:w<=w.heap.size+1) ⟨(h:Int),1,A,zB⟩);have⟨w9,L⟩:=ZX (bU f (w+1) ⟨(h:Int),1,A,zB⟩);rw[<-L] at r o ⊢;have⟨N,H,F,I,C,M,D,G,K,B,O⟩:=Bx.cE r;have J:cy ⟨h,d⟩ e t=⟨(h:Int),1,A,zB⟩:=by rw[cy,UX V.o,UY (show cn e d=true by rw[cn,<-S];simpa using h2),show dX e d=A by rw[dX,<-S,UX (by omega)]]
   exact UM (v:=.tuple #[.agg (Zp h 1 A zB),Zl true]) (by simp[results,results66,go_sem,N,H,F,I,C,M,D,G,K,B,O]) rfl ⟨_,rfl,by rw[J],o⟩
  ·go_wp2_with fail;clear p0 p1 p2 p3 p4 p5 p6 p7 p8 q0 q1 q2 q3 q4 q5 q6 q7 q8 q9 ae aj;refine(tr j d (HH.later B2)).mono ?_;rintro E b ⟨rfl,u⟩;have x:=Y (s.later u s.lt);have X:=Y (R.later u R.lt);have B3:=Y (B2.t u);clear u;obtain⟨z,Z⟩:∃ab:Int,H_ (ab=dI t d):=⟨_,rfl⟩;rw[<-Z];have ao:=X.frozen;have⟨p0,p1,p2,p3,p4,p5,p6,p7,p8⟩:=(show b.cell? w=Zb (h:Int)/\b.cell? (w,1)=Za d.z0/\b.cell? (w,2)=Za d.z1/\b.cell? (w,3)=Za d.z2/\b.cell? (w,4)=Za d.z3/\b.cell? (w,5)=Za d.z4/\b.cell? (w,6)=Za d.z5/\b.cell? (w,7)=Za d.z6/\b.cell? (w,8)=Za d.z7 from⟨x.cell 0,x.cell 1,x.cell 2,x.cell 3,x.cell 4,x.cell 5,x.cell 6,x.cell 7,x.cell 8⟩);have⟨q0,q1,q2,q3,q4,q5,q6,q7,q8,q9,ae⟩:=Bx.cE (p:=⟨0,0,0,zB⟩) X;by_cases h3:0<=z
   ·go_wp2_with fail;change bodyPost prog Tryz.f66 _ _ _ (bU b (w+1) ⟨(h:Int),2,z,zB⟩);have r:=Y (dG X ⟨(h:Int),2,z,zB⟩);have o:=Y (bh B3 (by omega:w<=w.heap.size+1) ⟨(h:Int),2,z,zB⟩);have⟨w9,L⟩:=ZX (bU b (w+1) ⟨(h:Int),2,z,zB⟩);rw[<-L] at r o ⊢;have⟨N,H,F,I,C,M,D,G,K,B,O⟩:=Bx.cE r;have J:cy ⟨h,d⟩ e t=⟨(h:Int),2,z,zB⟩:=by rw[cy,UX V.o,UX (show ¬cn e d=true by rw[cn,<-S];simpa using h2),UY (show cn t d=true by rw[cn,<-Z];simpa using h3),show dX t d=z by rw[dX,<-Z,UX (by omega)]]
    exact UM (v:=.tuple #[.agg (Zp h 2 z zB),Zl true]) (by simp[results,results66,go_sem,N,H,F,I,C,M,D,G,K,B,O]) rfl ⟨_,rfl,by rw[J],o⟩
   ·go_wp2_with fail;change bodyPost prog Tryz.f66 _ _ _ (bU b (w+1) ⟨(h:Int),3,0,d⟩);have r:=Y (dG X ⟨(h:Int),3,0,d⟩);have o:=Y (bh B3 (by omega:w<=w.heap.size+1) ⟨(h:Int),3,0,d⟩);have⟨w9,L⟩:=ZX (bU b (w+1) ⟨(h:Int),3,0,d⟩);rw[<-L] at r o ⊢;have⟨N,H,F,I,C,M,D,G,K,B,O⟩:=Bx.cE r;have J:cy ⟨h,d⟩ e t=⟨(h:Int),3,0,d⟩:=by rw[cy,UX V.o,UX (show ¬cn e d=true by rw[cn,<-S];simpa using h2),UX (show ¬cn t d=true by rw[cn,<-Z];simpa using h3)]
    exact UM (v:=.tuple #[.agg (Zp h 3 0 d),Zl true]) (by simp[results,results66,go_sem,N,H,F,I,C,M,D,G,K,B,O]) rfl ⟨_,rfl,by rw[J],o⟩
def Mx.jH(peer had:List B8)(p:Pt):List Pk:=if peer[p.at_.toNat]?=some p.d then [] else [cy p peer had]
def Mx.pks(peer had:List B8)(ps:List Pt):List Pk:=ps.flatMap (jH peer had)
theorem Mx.mS(h:V[g]?=P):pks l M (V.take (g+1))=pks l M (V.take g)++jH l M P:=by
 rw[up,h,pks,wt];simp[pks]
theorem Mx.lX(c b:List B8):∀a:List Pt,(pks c b a).length<=a.length
 |[]=>by simp[pks]
 |p::a=>by
  have h:=lX c b a;have e:pks c b (p::a)=jH c b p++pks c b a:=by simp[pks]
  rw[e,OC,fd];have:(jH c b p).length<=1:=by unfold jH;split<;>simp
  omega
theorem pB(cm e:Nat)(v:PL w q m V)(C:BL w a g l)(hh:BL w p c M)(hc:c<=j)(hn:g<=1000)(hm:m<=1000)(h0:gW g M=0)(E:gP g V=0):
 C_ prog 55 #[(q,m,cm),(a,g,e),(p,c,j)] w λo w'=>∃t s,o=Zr #[.slice t (pks l M V).length s,Zn]/\H_ (dA w' w (.slice t (pks l M V).length s) (pks l M V))/\H_ (OS w w'):=by
 have HH:=Y hh;have I:=Y v;have HQ:=Y C;have H0:=Y (show aJ (gW g M)=Zn by rw[h0];rfl);have HR:=Y (show bK g V=true by unfold gP at E;by_cases F:bK g V=true;exact F;rw[UX F] at E;exact absurd E (by omega));have H1:=Y (show aJ (gP g V)=Zn by rw[E];rfl);clear hh v C E h0;go_enter func55,ntmps55;go_wp2_with fail;refine(nA a g e HH.o hc).mono ?_;rintro o w1 ⟨rfl,ai⟩;rw[H0.o];have L:=Y ai;clear ai;go_wp2_with fail;refine(uv (c:=cm) (I.o.later L.o) hn).mono ?_;rintro o w2 ⟨rfl,aj⟩;rw[H1.o];have B2:=Y (L.o.trans (aj.mono L.o.size));clear aj;go_wp2_with fail;refine(sg a p g e c j w2).mono ?_;rintro o d ⟨rfl,ab⟩;have J:=Y (B2.o.trans (ab.mono B2.o.size));clear ab;go_wp2_with fail;have K0:=Y (Bx.new d #[.iface 177 (.agg #[]),.iface 178 (a,g,e),.iface 178 (p,c,j),.iface 179 (.agg #[])] 141);have B4:=Y (J.o.alloc J.o.size (.cells #[.iface 177 (.agg #[]),.iface 178 (a,g,e),.iface 178 (p,c,j),.iface 179 (.agg #[])] 141));have⟨w4,ak⟩:=ZX (d.alloc (.cells #[.iface 177 (.agg #[]),.iface 178 (a,g,e),.iface 178 (p,c,j),.iface 179 (.agg #[])] 141));rw[<-ak.o] at K0 B4 ⊢;go_loopw [10,32] (λU X wr=>∃(k A:Nat) (t:Option A_) (s:Nat),k<=m/\X=Zb (k:Int)/\U=.slice t A s/\H_ (A=(pks l M (V.take k)).length)/\H_ (dA wr (d+1) (.slice t A s) (pks l M (V.take k)))/\H_ (Bx wr d #[.iface 177 (.agg #[]),.iface 178 (a,g,e),.iface 178 (p,c,j),.iface 179 (.agg #[])] 141)/\H_ (OS w wr)) (λ_ X _=>m-(intOf X).toNat)
 case atStart=>exact⟨0,0,none,0,by omega,rfl,rfl,Y (by simp[pks]),dA.nil _ _,K0,B4⟩
 case round=>
  obtain⟨k,A,t,s,hk,rfl,rfl,D,G,r,u⟩:=hrel;by_cases aq:k<m
  ·obtain⟨aw,ax,b,rfl,hb,v,e0,e1,e2,e3,e4,e5,e6,e7,e8⟩:=(I.o.later u.o).at_ k aq;have al:0<=cW V k:=by
    rcases Cb HR.o (k:=k) with F|F
    ·exact lI F
    ·have:=I.o.1;omega
   have⟨av,ar⟩:=mX HR.o v;obtain⟨f,Q⟩:∃f:Nat,b.at_=f:=⟨b.at_.toNat,by omega⟩;have am:f<g:=by omega
   have W:=Y Q;have HK:=Y v;rw[Q] at e0;clear av ar al Q v;obtain⟨bq,oq,y,rfl,az,hy,y0,y1,y2,y3,y4,y5,y6,y7⟩:=(HQ.o.later u.o).at_ f am;have HY:=Y hy;clear hy;have K:=fj y.z0 y.z1 y.z2 y.z3 y.z4 y.z5 y.z6 y.z7 b.d.z0 b.d.z1 b.d.z2 b.d.z3 b.d.z4 b.d.z5 b.d.z6 b.d.z7;have⟨x0,x1,x2,x3⟩:=(show wr.cell? d=some (.iface 177 (.agg #[]))/\wr.cell? (d,1)=some (.iface 178 (bq,oq,g,e))/\wr.cell? (d,2)=some (.iface 178 (p,c,j))/\wr.cell? (d,3)=some (.iface 179 (.agg #[])) from⟨r.o.cell 0,r.o.cell 1,r.o.cell 2,r.o.cell 3⟩);have ay:=r.o.lt;by_cases z:[y.z0,y.z1,y.z2,y.z3,y.z4,y.z5,y.z6,y.z7]=[b.d.z0,b.d.z1,b.d.z2,b.d.z3,b.d.z4,b.d.z5,b.d.z6,b.d.z7]
   ·have N:=Y ((B8.eq_list y b.d).1 z);rw[UR z] at K;clear z;have B:=Y (show pks l M (V.take (k+1))=pks l M (V.take k) by rw[mS HK.o,jH,UY (by rw[W.o,m6,HY.o,N.o]),m7]);go_wp2_with fail;go_quiet (fail);go_wp2_with fail;have h:=Y (below_drewN (af (v:=wr) (P:=.cells (Zq f b.d) 123)) nq);have⟨T,O⟩:=ZX ((wr.alloc (.cells (Zq f b.d) 123)).drewN nq);rw[<-O.o] at h ⊢;have H:=Y (r.o.later h.o r.o.lt);have R:=Y (show dA T (d+1) _ (pks l M (V.take k)) from aW G.o h.o);have x:=Y (u.o.trans (h.o.mono u.o.size));go_roundw
    case rel=>exact⟨k+1,A,t,s,by omega,by go_num,rfl,by rw[B.o];exact D,by rw[B.o];exact R,H,x⟩
    case measure=>simp[intOf];omega
   ·have N:=Y (λo=>z ((B8.eq_list y b.d).2 o));rw[UQ z] at K;clear z;have B:=Y (show pks l M (V.take (k+1))=pks l M (V.take k)++[cy ⟨(f:Int),b.d⟩ l M] by rw[mS HK.o,jH,UX (by rw[W.o,m6,HY.o];exact λo=>N.o (OG o)),<-W.o]);have HL:=Y (show(pks l M (V.take k)).length<=1000 by have h1:=lX l M (V.take k);rw[OM] at h1;omega);go_wp2_with fail;go_quiet (fail);go_wp2_with fail;have h:=Y (below_drewN (af (v:=wr) (P:=.cells (Zq f b.d) 123)) nq);have⟨T,O⟩:=ZX ((wr.alloc (.cells (Zq f b.d) 123)).drewN nq);rw[<-O.o] at h ⊢;have H:=Y (r.o.later h.o r.o.lt);have R:=Y (show dA T (d+1) _ (pks l M (V.take k)) from aW G.o h.o);have x:=Y (u.o.trans (h.o.mono u.o.size));clear e0 e1 e2 e3 e4 e5 e6 e7 e8 y0 y1 y2 y3 y4 y5 y6 y7 x0 x1 x2 x3 K;refine(Bp (c:=e) (j:=j) (P:=⟨(f:Int),b.d⟩) (HQ.o.later x.o) (HH.o.later x.o)).mono ?_;rintro o w6 ⟨au,C,rfl,S⟩;have ao:=Y C;clear C;have X6:=Y (H.o.later S.o H.o.lt);have O6:=Y (show dA w6 (d+1) _ (pks l M (V.take k)) from aW R.o S.o);have B6:=Y (x.o.trans (S.o.mono x.o.size));have S6:=Y X6.o.lt;go_wp2_with (at_builtin;refine fV rfl rfl (m:=d+1) (pks l M (V.take k)) ?o1 au ?o2 ?o3 ?o4 ?_);case o1=>exact O6.o
    case o2=>rfl
    case o3=>have:=HL.o;omega
    case o4=>exact S6.o
    intro ad c2 w7 ag ae;have b7:=Y ((ce (d+1) w6).grown ae S6.o (λk hk=>(World.ownsRow.lt O6.o k hk).1));have O7:=Y ag;have X7:=Y (X6.o.later b7.o (Nat.lt_succ_self _));have B7:=Y (B6.o.trans (b7.o.mono (Ty J.o.size)));rw[<-D.o] at O7 ⊢;clear ag ae;go_wp2_with fail;go_roundw
    case rel=>exact⟨k+1,A+1,some ad,c2,by omega,by go_num,rfl,by rw[B.o,OC,<-D.o];exact Y rfl,by rw[B.o,<-ao.o];exact O7,X7,B7⟩
    case measure=>simp[intOf];omega
  ·have HT:=Y (show V.take k=V from OL (by have:=I.o.1;omega));go_wp2_with fail;rw[HT.o] at D G;have an:=D.o;subst an;refine UM (by simp[results,results55,go_sem]) rfl ⟨t,s,rfl,Y (World.ownsRow.mono G.o (Ty J.o.size)),u⟩
theorem Bq(v:PL w q m V)(C:BL w a j l)(x:BL w p h M)(hc:h<=b)(t:j<=1000)(B:m<=1000)(h0:gW j M=0)(r:gP j V=0):
 C_ prog 55 #[(q,m,g),(a,j,c),(p,h,b)] w λo f=>∃d e,o=Zr #[.slice d (pks l M V).length e,Zn]/\H_ (QL f d (pks l M V).length (pks l M V))/\H_ (OS w f):=by
 apply(pB g c v C x hc t B h0 r).mono;rintro o f ⟨d,e,rfl,u,A⟩;have⟨s,c2,y,z⟩:=u.ql;obtain⟨rfl,rfl⟩:d=s/\e=c2:=by simpa using y
 exact⟨d,e,rfl,z,A⟩
section
variable {n i:Int}{k:Nat}
namespace Mx
def dQ:Pk:=⟨0,0,0,zB⟩
def il(qs:List Pk):Nat->Int
 |0=>0
 |k+1=>(qs.getD k dQ).at_+1
def qOk(n nx:Int)(q:Pk):Bool:=decide (nx<=q.at_) && (decide (q.at_<n) && (decide (0<=q.kind) && decide (q.kind<4)))
def jo (n:Int) (qs:List Pk) (k:Nat):Bool:=qOk n (il qs k) (qs.getD k dQ)
def iS (n:Int) (qs:List Pk):Bool:=(List.range qs.length).all (jo n qs)
def qE (n:Int) (qs:List Pk):Int:=if iS n qs=true then 0 else 1
theorem Fo(a:k<X.length)(h:jo n X k=false):iS n X=false:=by
 unfold iS;rw[List.all_eq_false];exact⟨k,IR.2 a,by rw[h];simp⟩
theorem Fm(a:X[k]?=W)(h:qOk n (il X k) W=false):qE n X=1:=by
 rw[qE,Fo (k:=k) (OI.1 a).1 (by unfold jo;rw[Oy,a];exact h)];rfl
def qTo (n:Int) (qs:List Pk) (k:Nat):Prop:=∀ j,j<k->jo n qs j=true
theorem xi(n:Int)(b:List Pk):qTo n b 0:=λ_ a=>absurd a (by omega)
theorem xe(h:qTo n X k):0<=il X k:=by
 induction k with
 |zero=>exact Ug _
 |succ k a=>
  have h1:=h k (by omega);have h2:=a (λj b=>h j (by omega));unfold jo qOk at h1;simp only[LT,UP] at h1;show 0<=(X.getD k dQ).at_+1;omega
theorem xh(h:qTo n X k)(b:X[k]?=W)(a:qOk n (il X k) W=true):qTo n X (k+1):=by
 intro j c;rcases Uf.1 c with h1|h1
 ·exact h j h1
 ·subst h1;unfold jo;rw[Oy,b];exact a
theorem mU(a:X[k]?=W):il X (k+1)=W.at_+1:=by
 rw[il,Oy,a];rfl
theorem Fl(h:qTo n X k)(b:X.length<=k):qE n X=0:=by
 rw[qE,show iS n X=true by
  unfold iS;rw[Nm];exact λj a=>h j (by have:=IR.1 a;omega)]
 rfl
theorem Nx(h:qE n X=0)(c:X[k]?=W):0<=W.at_/\W.at_<n/\0<=W.kind/\W.kind<4:=by
 have h0:iS n X=true:=by
  unfold qE at h;by_cases h1:iS n X=true
  ·exact h1
  ·rw[UX h1] at h;exact absurd h (by omega)
 have a:∀j,j<X.length->jo n X j=true:=by
  unfold iS at h0;rw[Nm] at h0;exact λj b=>h0 j (IR.2 b)
 have d:=(OI.1 c).1;have e:=xe (n:=n) (k:=k) (λj b=>a j (by omega));have h1:=a k d;unfold jo qOk at h1;rw[Oy,c] at h1;simp only[LT,UP,Tw] at h1;omega
def atI(l:List B8)(i:Int):Option B8:=if i<0 then none else l[i.toNat]?
theorem vg{l:List B8}(h:i<0\/(l.length:Int)<=i):atI l i=none:=by
 unfold atI;split
 ·rfl
 ·exact TV (by omega)
theorem vh(h:i=k)(a:l[k]?=d):atI l i=d:=by
 subst h;rw[atI,UX (by omega),m6,a]
def cR(q:Pk)(peer had:List B8):Option B8:=if q.kind=0 then some zB else if q.kind=3 then some q.d else if q.kind=2 then atI had q.from_ else atI peer q.from_
def lG(q:Pk)(peer had:List B8):List Pt:=match cR q peer had with|some d=>[⟨q.at_,d⟩]|none=>[]
def pX(q:Pk)(peer had:List B8):List Int:=match cR q peer had with|some _=>[]|none=>[q.at_]
def aR(qs:List Pk)(peer had:List B8):List Pt:=qs.flatMap (λq=>lG q peer had)
def eG(qs:List Pk)(peer had:List B8):List Int:=qs.flatMap (λq=>pX q peer had)
theorem jU{α β:Type}(f:α->List β){l:List α}{x:α}(h:l[k]?=x):(l.take (k+1)).flatMap f=(l.take k).flatMap f++f x:=by
 rw[up,h,wt];simp
theorem nU{α β:Type}(f:α->List β)(h1:∀x,(f x).length<=1):∀l:List α,(l.flatMap f).length<=l.length
 |[]=>by simp
 |x::l=>by
  have h:=nU f h1 l;rw[Id,OC,fd];have:=h1 x;omega
theorem Fj(h:X[k]?=W)(hs:cR W l M=d):aR (X.take (k+1)) l M=aR (X.take k) l M++[⟨W.at_,d⟩]/\eG (X.take (k+1)) l M=eG (X.take k) l M:=by
 unfold aR eG;rw[jU _ h,jU _ h,show lG W l M=[⟨W.at_,d⟩] by rw[lG,hs],show pX W l M=[] by rw[pX,hs],m7];exact⟨rfl,rfl⟩
theorem Fi(h:X[k]?=W)(hs:cR W l M=none):aR (X.take (k+1)) l M=aR (X.take k) l M/\eG (X.take (k+1)) l M=eG (X.take k) l M++[W.at_]:=by
 unfold aR eG;rw[jU _ h,jU _ h,show lG W l M=[] by rw[lG,hs],show pX W l M=[W.at_] by rw[pX,hs],m7];exact⟨rfl,rfl⟩
theorem IP(a:List Pk)(c b:List B8):(aR a c b).length<=a.length:=nU _ (λq=>by unfold lG;split<;>simp) a
theorem Ik(a:List Pk)(c b:List B8):(eG a c b).length<=a.length:=nU _ (λq=>by unfold pX;split<;>simp) a
def bY(had:List B8)(qs:List Pk):List B8:=qs.foldl (λl q=>if q.kind=3 then bG l q.d else l) had
theorem rq(h:X[k]?=W):bY l (X.take (k+1))=if W.kind=3 then bG (bY l (X.take k)) W.d else bY l (X.take k):=by
 unfold bY;rw[up,h,dT];rfl
theorem kA(l:List B8):cF l=0↔l.length<=8/\l.Nodup:=by
 unfold cF;by_cases h:8<l.length
 ·rw[UY h];constructor
  ·intro h1;exact absurd h1 (by omega)
  ·intro h1;omega
 ·rw[UX h];by_cases h2:l.Nodup
  ·rw[UY h2];exact⟨λ_=>⟨by omega,h2⟩,λ_=>rfl⟩
  ·rw[UX h2];exact⟨λh1=>absurd h1 (by omega),λh1=>absurd h1.2 h2⟩
theorem vV(b:B8)(h:cF l=0):cF (bG l b)=0:=by
 rw[kA] at h ⊢;refine⟨pF l b,?_⟩;unfold bG;apply List.Sublist.nodup (List.take_sublist _ _);rw[List.nodup_cons];exact⟨by simp,h.2.filter _⟩
theorem tD(h:cF l=0):∀(a:List Pk),cF (bY l a)=0:=by
 intro a;unfold bY;induction a generalizing l with
 |nil=>exact h
 |cons q a c=>
  rw[RK];apply c;by_cases b:q.kind=3
  ·rw[UY b];exact vV _ h
  ·rw[UX b];exact h
end Mx
end
section
variable {n:Int}
namespace Mx
def gu(peer:List B8)(p:Pt):Bool:=decide (¬peer[p.at_.toNat]?=some p.d)
theorem ff(a c:List B8)(b:List Pt):pks a c b=(b.filter (gu a)).map (λp=>cy p a c):=by
 induction b with
 |nil=>rfl
 |cons p b d=>
  have e:pks a c (p::b)=jH a c p++pks a c b:=by simp[pks]
  rw[e,d];unfold jH;by_cases h:a[p.at_.toNat]?=p.d
  ·rw[UY h,Uy (by simp[gu,h])];rfl
  ·rw[UX h,Uz (by simp[gu,h])];rfl
theorem Au(m:d∈l):atI l (dI l d)=d:=by
 have⟨j,f⟩:=Tv m;have g:∃k:Nat,l[k]?=d/\∀i:Nat,i<k->l[i]?≠some d:=by
  induction j using Nat.strongRecOn with
  |_ j ih=>
   by_cases c:∃i,i<j/\l[i]?=d
   ·have⟨i,a,b⟩:=c;exact ih i a b
   ·exact⟨j,f,λi a b=>c ⟨i,a,b⟩⟩
 have⟨k,e,h⟩:=g;rw[nT e h];exact vh rfl e
theorem Dm:cn l d=true↔d∈l:=by
 unfold cn;rw[nB];simp
theorem nS(h:cn l d=true):atI l (dX l d)=d:=by
 have h0:0<=dI l d:=by simpa[cn] using h
 rw[dX,UX (by omega)];exact Au (Dm.1 h)
theorem tZ(p:Pt)(b a:List B8):cR (cy p b a) b a=p.d/\(cy p b a).at_=p.at_/\0<=(cy p b a).kind/\(cy p b a).kind<4:=by
 unfold cy;by_cases h0:p.d=zB
 ·rw[UY h0];refine⟨?_,rfl,by simp,by simp⟩;rw[cR,UY rfl,h0]
 ·rw[UX h0];by_cases h1:cn b p.d=true
  ·rw[UY h1];refine⟨?_,rfl,by simp,by simp⟩;simp only[cR];exact nS h1
  ·rw[UX h1];by_cases h2:cn a p.d=true
   ·rw[UY h2];refine⟨?_,rfl,by simp,by simp⟩;simp only[cR];exact nS h2
   ·rw[UX h2];exact⟨rfl,rfl,by simp,by simp⟩
theorem IQ(a b:List B8)(c:List Pt):aR (pks a b c) a b=c.filter (gu a)/\eG (pks a b c) a b=[]:=by
 rw[ff];induction c.filter (gu a) with
 |nil=>exact⟨rfl,rfl⟩
 |cons p l d=>
  have⟨h1,h2,_⟩:=tZ p a b;constructor
  ·rw[i7,aR,Id,lG,h1,h2];exact congrArg (p::·) d.1
  ·rw[i7,eG,Id,pX,h1];exact d.2
def eh (n:Int):Int→List Pt→Prop
 | _, [] => True
 | s, p :: ps => s ≤ p.at_ ∧ p.at_ < n ∧ eh n (p.at_ + 1) ps
theorem uG(h:bK n V=true):∀(m k:Nat),V.length-k=m->eh n (cW V k) (V.drop k):=by
 intro m;induction m with
 |zero=>
  intro k b;rw[List.drop_eq_nil_of_le (by omega)];trivial
 |succ m c=>
  intro k b;have a:k<V.length:=by omega
  rw[Fn a];have h1:=mX h (Ox a);have h2:=c (k+1) (by omega);have e:cW V (k+1)=V[k].at_+1:=by rw[cW,Oy,Ox a];rfl
  rw[e] at h2;exact⟨h1.1,h1.2,h2⟩
theorem eM(h:bK n V=true):eh n 0 V:=uG h _ 0 rfl
theorem uH:∀{a:List Pt} {s t:Int},eh n s a->t<=s->eh n t a
 |[],_,_,_,_=>trivial
 |_::_,_,_,h,ht=>⟨by have:=h.1;omega,h.2.1,h.2.2⟩
theorem ld{n:Int}(f:Pt->Bool):∀{a:List Pt} {s:Int},eh n s a->eh n s (a.filter f)
 |[],_,_=>trivial
 |p::a,s,h=>by
  have c:=ld f h.2.2;by_cases b:f p=true
  ·rw[Uz b]
   exact⟨h.1,h.2.1,c⟩
  ·rw[Uy b]
   exact uH c (by have:=h.1;omega)
theorem ej{n:Int}:∀{a:List Pt} {s:Int},eh n s a->∀p∈a,s<=p.at_/\p.at_<n
 |[],_,_,p,hp=>by simp at hp
 |p::a,s,h,q,hq=>by
  rcases ro.1 hq with rfl|h1
  ·exact⟨h.1,h.2.1⟩
  ·have:=ej h.2.2 q h1
   have:=h.1;omega
def uU (n:Int):Int→List Pk→Prop
 | _, [] => True
 | s, q :: qs => s ≤ q.at_ ∧ q.at_ < n ∧ (0 ≤ q.kind ∧ q.kind < 4) ∧ uU n (q.at_ + 1) qs
theorem tY(c b:List B8){n:Int}:∀{a:List Pt} {s:Int},eh n s a->uU n s (a.map (λp=>cy p c b))
 |[],_,_=>trivial
 |p::a,s,h=>by
  have⟨_,h2,d,e⟩:=tZ p c b;have f:=tY c b h.2.2;rw[i7];refine⟨by rw[h2];exact h.1,by rw[h2];exact h.2.1,⟨d,e⟩,?_⟩;rw[h2];exact f
theorem MQ(h:uU n 0 X):∀k:Nat,k<=X.length->qTo n X k/\uU n (il X k) (X.drop k):=by
 intro k;induction k with
 |zero=>intro _;exact⟨xi _ _,h⟩
 |succ k c=>
  intro d;have⟨h1,h2⟩:=c (by omega);have a:k<X.length:=by omega
  rw[Fn a] at h2;have b:=Ox a;refine⟨xh h1 b ?_,?_⟩
  ·unfold qOk;simp only[LT,UP];exact⟨h2.1,h2.2.1,h2.2.2.1.1,h2.2.2.1.2⟩
  ·rw[mU b];exact h2.2.2.2
theorem MP(a b:List B8)(h:bK n V=true):qE n (pks a b V)=0:=by
 rw[ff];exact Fl (MQ (tY a b (ld _ (eM h))) _ (OJ _)).1 (OJ _)
theorem qm(h:bK n V=true):gP n V=0:=by rw[gP,UY h]
def kX(l:List B8)(p:Pt):List B8:=l.set p.at_.toNat p.d
theorem mT{d:List B8}{n:Int}:∀{a:List Pt} {s:Int} {l:List B8},0<=s->eh n s a->(∀i:Nat,s<=(i:Int)->l[i]?=d[i]?)->a.foldl kX l=(a.filter (gu d)).foldl kX l
 |[],_,_,_,_,_=>rfl
 |p::a,s,l,hs,h,hl=>by
  have g:0<=p.at_:=by have:=h.1;omega
  have e:((p.at_.toNat:Nat):Int)=p.at_:=Int.toNat_of_nonneg g;rw[RK];by_cases b:d[p.at_.toNat]?=p.d
  ·rw[Uy (by simp[gu,b])]
   have f:kX l p=l:=by
    unfold kX;apply List.ext_getElem?;intro i;by_cases c:p.at_.toNat=i
    ·subst c;rw[hl _ (by rw[e];exact h.1)];have j:p.at_.toNat<l.length:=by
      have h1:=hl p.at_.toNat (by rw[e];exact h.1);rw[b] at h1;exact(OI.1 h1).1
     rw[UF j,b]
    ·rw[TC c]
   rw[f];exact mT (by omega) h.2.2 (λi c=>hl i (by have:=h.1;omega))
  ·rw[Uz (by simp[gu,b]),RK];refine mT (by omega) h.2.2 (λi c=>?_);unfold kX;rw[TC (by omega)];exact hl i (by have:=h.1;omega)
theorem Fh(h:bK n V=true):(V.filter (gu l)).foldl kX l=V.foldl kX l:=
 (mT (Ug 0) (eM h) (λ_ _=>rfl)).symm
end Mx
end
section
variable {n k:Int}
theorem Mx.Dt(a b:List Pt)(q:Pt)(h:q∈a.foldl dS b):q∈b\/q∈a:=by
 induction a generalizing b with
 |nil=>exact .inl h
 |cons p a c=>
  rcases c (dS b p) h with h1|h1
  ·rcases wY h1 with h2|h2
   ·exact .inr (by rw[h2];exact li ..)
   ·exact .inl h2
  ·exact .inr (gt _ h1)
theorem Mx.Jg(l:aY U n=0)(hs:cU U n k=true):∀q∈(bT U n k).aR,0<=q.at_/\q.at_<n:=by
 have⟨h1,_,d⟩:=cb l;intro q a;have f:(bT U n k).aR=eS (aX U k):=by unfold bT;rw[hs];rfl
 rw[f] at a;unfold eS at a;rcases Dt _ _ q a with h|h
 ·cases h
 ·have⟨e,c,b⟩:=If.1 h;have⟨i,j⟩:=TN.1 (n5 e c);have g:=(kj (cJ d).2.2 j).1;exact⟨(iL d h1.2.1 e c q b).1,zO g q b⟩
theorem Mx.FP(f:aY U n=0)(hs:cU U n k=true):(bT U n k).aR.length<=32:=by
 have⟨h1,_,d⟩:=cb f;have c:(bT U n k).aR=eS (aX U k):=by unfold bT;rw[hs];rfl
 rw[c];have h:=Fy (xw (ps:=(aX U k).flatMap (·.aR)) (l:=[]) trivial (λq g=>by
  have⟨e,b,a⟩:=If.1 g;exact iL d h1.2.1 e b q a)) (by omega)
 unfold eS;omega
theorem gI(h:aY U n=0):small U.op U.se:=by
 have⟨h1,h2,a⟩:=ui h;exact⟨λe b=>by have:=a e b;omega,by omega,by omega⟩
end
section
variable {n prev to_ k:Nat}
namespace Mx
def Good (n:Nat) (ae:List (List B8)) (prev:Nat) (jF:List B8) (ms:List Fr) (to_:Nat) (fy:List B8):Prop :=
 ∃ (u:Upd) (base fin:List B8),ms=u.msgs/\(∀ q∈u.qs,QW q)/\u.qs.length<=32/\u.to_=(to_:Int) /\
  ((u.from_=0/\base=List.replicate n zB)\/(u.from_=(prev:Int)/\u.from_≠0/\ae[prev]?=some base)) /\
  cF jF=0/\qE n u.qs=0/\eG u.qs base jF=[]/\ae[to_]?=some fin/\aH base (aR u.qs base jF)=fin/\fy=bY jF u.qs/\base.length=n/\(∀ q∈u.qs,by8 q.d)/\(∀ x∈fin,by8 x)
theorem Good.mono(h:Good n O prev l J to_ M):Good n (O++F) prev l J to_ M:=by
 have⟨u,base,d,h1,h2,o,e,a,q,j,f,g,r⟩:=h;have hx:∀{i:Nat} {x:List B8},O[i]?=x->(O++F)[i]?=x:=by
  intro i x c;rw[OO (OI.1 c).1];exact c
 refine⟨u,base,d,h1,h2,o,e,?_,q,j,f,hx g,r⟩;rcases a with a|⟨m,b,p⟩
 ·exact .inl a
 ·exact .inr ⟨m,b,hx p⟩
theorem vM(h:cn l d=true):0<=dX l d/\dX l d<l.length:=by
 have h1:=nS h;unfold atI at h1;split at h1
 ·cases h1
 ·have:=(OI.1 h1).1;omega
theorem yP(h0:0<=P.at_)(h1:P.at_<32)(a:l.length<=32)(b:M.length<=32):QW (cy P l M):=by
 unfold cy QW;split
 ·exact⟨h0,h1,by simp,by simp,by simp,by simp,λ_=>rfl⟩
 ·split
  ·next h=>have:=vM h;exact⟨h0,h1,by simp,by simp,this.1,by simp only;omega,λ_=>rfl⟩
  ·split
   ·next h=>have:=vM h;exact⟨h0,h1,by simp,by simp,this.1,by simp only;omega,λ_=>rfl⟩
   ·exact⟨h0,h1,by simp,by simp,by simp,by simp,λh=>absurd rfl h⟩
theorem gZ(l:List B8)(a:List Pt):lay l a=aH l a:=rfl
theorem nC(l:List B8)(a:List Pt):aH l a=a.foldl kX l:=rfl
theorem iV{n:Int}:∀{a:List Pt} {s:Int},eh n s a->s<=n->(a.length:Int)<=n-s
 |[],s,_,h=>by simp;omega
 |p::a,s,h,hs=>by
  have h1:=h.1;have h2:=h.2.1;have b:=iV h.2.2 (by omega);rw[fd]
  push_cast
  omega
theorem sM{n:Int}:∀{a:List Pt} {s:Int} {l:List B8},eh n s a->0<=s->n=(l.length:Int)->∀p∈a,p.d∈lay l a
 |[],_,_,_,_,_,p,b=>by simp at b
 |q::a,s,l,h,hs,hl,p,b=>by
  have h1:=h.1;have h2:=h.2.1;show p.d∈lay (ey l q) a
  rcases ro.1 b with rfl|b
  ·unfold ey
   rw[pU a l _ _ (λr c=>by have:=ej h.2.2 r c;omega)];have d:(lay l a).length=l.length:=by rw[gZ];exact dD _ _
   exact List.mem_set (by omega) _
  ·exact sM h.2.2 (by omega) (by unfold ey;rw[t9];exact hl) p b
theorem bW:by8 zB:=by unfold by8 zB;simp
theorem wS(h:by8 P.d):by8 (cy P l M).d:=by
 unfold cy;split
 ·exact bW
 ·split
  ·exact bW
  ·split
   ·exact bW
   ·exact h
theorem tw(s:n<=32)(c:bK n V=true)(m:cF l=0)(h:M.length=n)(o:(x=0/\M=List.replicate n zB)\/(x=(prev:Int)/\x≠0/\O[prev]?=M))(r:O[to_]?=H)(f:aH M V=H)(j:∀x∈H,by8 x):
 Good n O prev l (Upd.msgs ⟨x,(to_:Int),pks M l V⟩) to_ (bY l (pks M l V)):=by
 have g:=IQ M l V;have e:=eM c;have t:=((kA l).1 m).1;refine⟨⟨x,(to_:Int),pks M l V⟩,M,H,rfl,?_,?_,rfl,o,m,MP M l c,g.2,r,?_,rfl,h,?_,j⟩
 ·intro q d;have a:q∈(V.filter (gu M)).map (λp=>cy p M l):=by rw[<-ff];exact d
  obtain⟨p,b,rfl⟩:=m8.1 a;have h1:=ej e p ((Ur.1 b).1);exact yP h1.1 (by omega) (by omega) (by omega)
 ·show(pks M l V).length<=32;rw[ff,pm];have h1:=UK (gu M) V;have h2:=iV e (by omega);omega
 ·show aH M (aR (pks M l V) M l)=H;rw[g.1,nC,Fh c,<-nC];exact f
 ·intro q d;have a:q∈(V.filter (gu M)).map (λp=>cy p M l):=by rw[<-ff];exact d
  obtain⟨p,b,rfl⟩:=m8.1 a;refine wS (j _ ?_);rw[<-f,<-gZ];exact sM e (Ug 0) (by rw[h]) p ((Ur.1 b).1)
def bM(l:List B8):List Pt:=(List.range l.length).map (λi:Nat=>⟨(i:Int),l.getD i zB⟩)
theorem eD(l:List B8):(bM l).length=l.length:=by unfold bM;simp
theorem jc(h:g<l.length):(bM l)[g]?=some ⟨(g:Int),l.getD g zB⟩:=by
 unfold bM;rw[i8,T8 h];rfl
theorem kL(l:List B8):bK l.length (bM l)=true:=by
 refine kZ (λk a=>?_);rw[eD] at a;have h1:=jc a;have h2:(bM l).getD k dP=⟨(k:Int),l.getD k zB⟩:=by rw[Oy,h1];rfl
 have b:cW (bM l) k=(k:Int):=by
  cases k with
  |zero=>rfl
  |succ j=>
   rw[cW,Oy,jc (by omega)];simp
 unfold fx;rw[h2,b];simp;omega
theorem yR:∀p∈bM l,0<=p.at_/\p.at_<(l.length:Int):=by
 intro p a;obtain⟨i,b,rfl⟩:=m8.1 a;have:=IR.1 b;exact⟨by simp,by simp only;omega⟩
theorem ko(l m:List B8)(h:m.length=l.length):aH m (bM l)=l:=by
 have b:∀k,k<=l.length->aH m ((bM l).take k)=l.take k++m.drop k:=by
  intro k;induction k with
  |zero=>intro _;rfl
  |succ k c=>
   intro d;have a:k<l.length:=by omega
   rw[iJ m (bM l) k _ (jc a),c (by omega)];simp only[m6];rw[TO _ _ (by rw[OM];omega),OM,show k-min k l.length=0 by omega];rw[Fn (by omega:k<m.length),Eq,up,Ox a,eq];rw[Oy,Ox a];rfl
 have h1:=b l.length (OJ _);rw[OL (by rw[eD];omega),OL (OJ _),Pi (by omega),m7] at h1;exact h1
theorem np(d:aY U x=0)(hs:cU U x y=true):bK x (bT U x y).aR=true:=by
 have⟨s,_,r⟩:=cb d;have o:=Jg d hs;refine zP ?_ (λq a=>(o q a).2);have f:(bT U x y).aR=eS (aX U y):=by unfold bT;rw[hs];rfl
 rw[f];have j:=iL (k:=y) r s.2.1;unfold eS;have g:∀(l b:List Pt),Rk 0 b->(∀q∈l,0<=q.at_/\q.at_<32)->Rk 0 (l.foldl dS b):=by
  intro l;induction l with
  |nil=>intro b h _;exact h
  |cons p l u=>
   intro b h c;rw[RK];exact u _ (oT h (c p (li ..)).1 (c p (li ..)).2) (λq a=>c q (gt _ a))
 refine g _ [] trivial (λq a=>?_);have⟨m,e,t⟩:=If.1 a;exact j m e q t
theorem AB(d:n<=32)(h:iF n U O l)(a:U.num=(g:Int))(j:k<=g)(hs:cU U n (k:Int)=true)(hx:O[k]?=M)(c:M.length=n)(h0:O[0]?=some (List.replicate n zB))(f:cF H=0)(e:∀l∈O,∀M∈l,by8 M):
 Good n O k H (Upd.msgs ⟨(k:Int),(g:Int),pks M H (bT U n (k:Int)).aR⟩) g (bY H (pks M H (bT U n (k:Int)).aR)):=by
 have h1:=rB h (by omega) (by omega) hs (by rw[m6];exact hx);rw[a,m6] at h1;refine tw d (np h.may hs) f c ?_ h1 (gZ _ _).symm (e _ (OR h1));by_cases b:k=0
 ·subst b;rw[h0] at hx;exact .inl ⟨rfl,(OG hx).symm⟩
 ·exact .inr ⟨rfl,by omega,hx⟩
theorem AD(f:n<=32)(a:O[g]?=l)(c:l.length=n)(e:cF M=0)(d:∀l∈O,∀x∈l,by8 x):
 Good n O k M (Upd.msgs ⟨0,(g:Int),pks (List.replicate n zB) M (bM l)⟩) g (bY M (pks (List.replicate n zB) M (bM l))):=by
 have b:=kL l;rw[c] at b;exact tw f b e (by simp) (.inl ⟨rfl,rfl⟩) a (ko l _ (by simp[c])) (d _ (OR a))
end Mx
end
theorem oh:km #[.pointer p,x]:=by
 intro j v
 match j with
 |0=>simp
 |1=>simp
 |j+2=>simp
theorem Ex.fq(w:W_)(g:Nat)(b a:V_):Ex (λc=>c=g) w (fq w g b a):=Ex.one (kf (au w (J:=some g)) (V:=b) (U:=a))
theorem wH(f:Nat)(A:Mut Z w)(hs:BL w a (sz g) l)(hd:Hd g h l M x y):
 C_ prog 159 #[.agg #[(a,sz g,f),Zs,Zb (-1)],g] w λu t=>∃b,u=Zr #[.agg #[.pointer (some ⟨b,0,none⟩),g],Zn]/\H_ (fE Z w t b g M x y)/\H_ (OS w t):=by
 have⟨m,e⟩:=ZX ((w.alloc (.cells #[(a,sz g,f),Zs,Zb (-1)] 272)).alloc (.cells #[.pointer none,Zi] 219));have J:H_ (Bx m w #[(a,sz g,f),Zs,Zb (-1)] 272):=(by rw[e];exact(Bx.new w _ _).alloc _);have H:=Y (show Bx m (w+1) #[.pointer none,Zi] 219 by
  rw[e];have h:=Bx.new (w.alloc (.cells #[(a,sz g,f),Zs,Zb (-1)] 272)) #[.pointer none,Zi] 219;rw[dl] at h;exact h)
 have C:H_ (OS w m):=(by rw[e];exact(af).alloc (by simp) _);have r:=Y (show m=w.heap.size+2 by rw[e];simp);have P:=Y (hs.later C);have G:=Y A;have d:=Y hd;clear hs A hd;have⟨N,K,F⟩:=J.three;go_enter func159,ntmps159;go_wp2_with fail;rw[<-e];go_wp2_with fail;refine(KD (j:=f) (X:=0) (x:=-1) P (PL.nil m) d.n1 d.n2 rfl (oN d.n2) rfl (by omega) (by omega) (by omega) rfl d.mark d.mk0).mono ?_;rintro u L ⟨b,a1,c1,a2,c2,rfl,s,O,z⟩;have o:=Y (H.later z (by rw[r];omega));have⟨S,T⟩:=o.pair;have rz:=o.frozen;have Q:=Y (C.t z);clear N K F;go_wp2_with fail;have⟨R,D⟩:=(o.gT (.pointer (some ⟨b,0,none⟩)) (Zb (g:Int))).pair;have E:b≠w.heap.size+1:=by have h1:=s.o;have h2:=r.o;omega
 have B:=Y (eK Q (g:=w+1) (by omega) (V:=.pointer (some ⟨b,0,none⟩)) (U:=Zb (g:Int)));have I:=Y (O.other (Ex.fq L (w+1) (.pointer (some ⟨b,0,none⟩)) (Zb (g:Int))) o oh E);exact UM (by simp[results,results159,go_sem,R,D]) rfl ⟨b,rfl,(fE.of (by have h1:=s.o;have h2:=r.o;omega) I d G B),B⟩
theorem rD(r:Mut Z w)(h1:1<=g)(h2:g<=32):
 C_ prog 143 #[g] w λj p=>∃a,j=Zr #[.agg #[.pointer (some ⟨a,0,none⟩),g],Zn]/\H_ (fE Z w p a g (List.replicate g zB) 0 0)/\H_ (OS w p):=by
 have⟨Q,e⟩:=ZX (w.alloc (.cells #[.pointer none,Zi] 219));have f:=bxA e;have S:=beA e;have o:=Y r;clear r;go_enter func143,ntmps143;go_wp2_with fail;rw[<-e];refine(Du (v:=Q) h1 h2).mono ?_;rintro j K ⟨O,q,rfl,G,l⟩;have⟨N,u⟩:=ZX (sz g);rw[<-u];have⟨H,c⟩:=ZX (K.alloc (.cells #[(O,N,q),Zs,Zb (-1)] 272));have A:=Y (S.t l);have d:H_ (OS w H):=(by rw[c];exact A.alloc A.size _);have z:=beA c;have P:=bxA c;have m:=Y ((f.later l f.lt).later z (OE f.lt l.size));have R:=Y (G.later z);have⟨L,J,E⟩:=P.three;go_wp2_with fail;rw[<-c];go_wp2_with fail;rw[u];refine(wH q (o.later d) R (Hd.zero h1 h2)).mono ?_;rintro j I ⟨a,rfl,t,s⟩;have b:=Y (m.later s m.lt);have⟨U,V⟩:=b.pair;have W:=b.frozen;have C:=Y (d.t s);clear L J E;go_wp2_with fail;have⟨T,F⟩:=(b.gT (.pointer (some ⟨a,0,none⟩)) (Zb (g:Int))).pair;have D:a≠w.heap.size:=by have h1:=t.1;have h2:=m.lt;omega
 have B:¬Z w:=λhs=>by have:=o.lt _ hs;omega
 exact UM (by simp[results,results143,go_sem,T,F]) rfl ⟨a,rfl,((t.low d.size).box (Ex.fq I w _ _) b oh D B),(eK C (OJ _))⟩
theorem sj(K:Mut Z w)(U:Nd Z w g m l x y):
 C_ prog 125 #[.agg #[(g,0),m]] w λf G=>∃a,f=Zr #[.agg #[.pointer (some ⟨a,0,none⟩),m],Zn]/\H_ (fE Z w G a m l x y)/\H_ (OS w G):=by
 have⟨d,b⟩:=ZX ((w.alloc (.cells #[(g,0),m] 219)).alloc (.cells #[.pointer none,Zi] 219));have u:H_ (Bx d w #[(g,0),m] 219):=(by rw[b];exact(Bx.new w _ _).alloc _);have H:=Y (show Bx d (w+1) #[.pointer none,Zi] 219 by
  rw[b];have C:=Bx.new (w.alloc (.cells #[(g,0),m] 219)) #[.pointer none,Zi] 219;rw[dl] at C;exact C)
 have R:H_ (OS w d):=(by rw[b];exact(af).alloc (by simp) _);have S0:=Y (show d=w.heap.size+2 by rw[b];simp);have⟨_,C,ls,sa,sc,pa,pc,I,r,_⟩:=U;have HT:=Y (I.later R);have F:=Y K;have r:=Y r;clear K I;have⟨A,z⟩:=u.pair;go_enter func125,ntmps125;go_wp2_with fail;rw[<-b];go_wp2_with fail;refine(FG HT (by omega)).mono ?_;rintro f w1 ⟨a1,c1,a2,c2,rfl,P,B⟩;have⟨T,o⟩:=ZX (sz m);rw[<-o];go_wp2_with fail;rw[o];refine(CV (k:=c1) (c:=c2) (i:=0) (x:=-1) P.bl P.pl (aD.nil w1) (λae hz=>by simp at hz) (oN r.n2)).mono ?_;rintro f w2 ⟨a3,c3,rfl,B2,D⟩;rw[<-o];have⟨O,h⟩:=ZX (w2.alloc (.cells #[(a3,T,c3),Zs,Zb (-1)] 272));have D1:=Y (R.t B);have E:=Y (D1.t D);have t:H_ (OS w O):=(by rw[h];exact E.alloc E.size _);have N:=beA h;have Q:=Y (show OS d O from(B.t D).trans (N.mono (OP B.size D.size)));have X3:=bxA h;have Y3:=Y (u.later Q u.lt);have s:=Y (H.later Q H.lt);have B3:=Y (B2.later N);clear A z;have⟨A,z,x2⟩:=X3.three;have⟨y0,y1⟩:=Y3.pair;go_upto_region 2 with fail;rw[<-h];go_wp2_with fail;rw[o];refine(wH c3 (F.later t) B3 r).mono ?_;rintro f w4 ⟨a,rfl,S,J⟩;have e:=Y (s.later J s.lt);have⟨r0,r1⟩:=e.pair;have rz:=e.frozen;have V:=Y (t.t J);clear A z x2 y0 y1;go_wp2_with fail;have⟨t0,t1⟩:=(e.gT (.pointer (some ⟨a,0,none⟩)) (Zb (m:Int))).pair;have ad:a≠w.heap.size+1:=by have h1:=S.1;have h2:=s.lt;omega
 have ab:¬Z (w+1):=λhs=>by have:=F.lt _ hs;omega
 exact UM (by simp[results,results125,go_sem,t0,t1]) rfl ⟨a,rfl,((S.low t.size).box (Ex.fq w4 (w+1) _ _) e oh ad ab),(eK V (by omega))⟩
theorem tI(l:g<=1000):∃C:Array V_,(∀w:W_,(Instr.makeSlice 106 (Zb 0) (Zb (g:Int))).run prog w=.ok (w,0,g) (w.alloc (.cells C 123)))/\
 H_ (∀(w:W_) (a:Nat),a<=w->bt (w.alloc (.cells C 123)) a (w,0,g) []):=by
 have⟨e,c,f,b,j⟩:=info_parts Tryz.info123;refine⟨madeCells #[Value.int .i64 0,Zu,Zu,Zu,Zu,Zu,Zu,Zu,Zu] (g*9),λw=>?_,λw a d=>?_⟩
 ·have h:=run_makeSlice (P:=prog) w 106 123 e _ Tryz.underlying106 c f .i64 .i64 (0:Int) (g:Int) (by omega) (by omega) (by rw[b];simp;omega) (by rw[j];omega) (by omega);rw[b] at h;simpa[Value.cells] using h
 ·exact TL w _ g d (by unfold maxLen;omega) (UW _ _)
theorem Mx.sY(h:l[g]?=d):(bM l).take (g+1)=(bM l).take g++[⟨(g:Int),d⟩]:=by
 have a:=(OI.1 h).1;rw[up,jc a,Oy,h];rfl
theorem lC(N:Nat)(h:BL w a g l)(G:g<=1000):
 C_ prog 236 #[(a,g,N)] w λM r=>∃C y,M=Zv (.slice C g y)/\H_ (bt r w (.slice C g y) (bM l))/\H_ (OS w r):=by
 have⟨ab,hC,v⟩:=tI G;have HL:=Y h;have z:=h.1;have q:=Y z;clear h z;have⟨Z,m⟩:=ZX (w.alloc (.cells ab 123));have D0:=beA m;have P:H_ (bt Z w (w,0,g) []):=(by rw[m];exact v w w (OJ _));clear v;go_enter func236,ntmps236;go_wp2;rw[<-m];go_wp2;clear hC;go_loopw [3,11] (λL t wr=>∃(k:Nat) (b:Option A_) (c:Nat),t=Zb (k:Int)/\L=(b,k,c)/\k<=g/\H_ (bt wr w (b,k,c) ((bM l).take k))/\H_ (OS w wr)) (λ_ t _=>g-(intOf t).toNat)
 case atStart=>exact⟨0,_,_,rfl,rfl,ol _,by rw[List.take_zero];exact P,D0⟩
 case round=>
  obtain⟨k,b,c,rfl,rfl,A,p,e⟩:=hrel;by_cases V:k<g
  ·have af:(k:Int)<g:=by omega
   have⟨ag,ah,F,Q,ae,E,c0,c1,c2,c3,c4,c5,S,c7⟩:=(HL.later e).at_ k V;subst Q;have I:=Y E;clear E;have⟨x,d⟩:=ZX (wr.alloc (.cells F 65));have J:=bxA d;have u:H_ (OS w x):=(by rw[d];exact e.alloc e.size _);have j:H_ (bt x w (b,k,c) ((bM l).take k)):=(by rw[d];exact World.ownsRow.alloc p _);have D:=Y u.size;go_upto_region 5 with fail;rw[<-d];have⟨U,O,H,x3,x4,x5,x6,K⟩:=J.eight;clear c0 c1 c2 c3 c4 c5 S c7;have o:=Y (show((bM l).take k).length=k by rw[OM,eD,q];omega);obtain⟨T,s⟩:∃T:List Pt,H_ (T=(bM l).take k):=⟨_,rfl⟩;rw[<-s] at j o;go_wp2_with (at_builtin;refine eF rfl rfl w T ?o1 ⟨(k:Int),F⟩ ?o2 ?o3 ?o4 ?_);case o1=>exact j
   case o2=>rfl
   case o3=>rw[o];omega
   case o4=>exact D
   rw[o];intro X c2 w3 f B;rw[s,<-sY I] at f;have R:=Y f;have W:=Y (u.grown B D (λk A=>(World.ownsRow.lt j k A).1));clear f B U O H x3 x4 x5 x6 K;go_wp2;go_roundw
   case rel=>exact⟨k+1,some X,c2,by go_num,rfl,by omega,R,W⟩
   case measure=>simp[intOf];omega
  ·obtain rfl:k=g:=by omega
   go_wp2;go_ret;exact⟨b,c,rfl,by rw[OL (by rw[eD,q];exact OJ _)] at p;exact p,e⟩
theorem Mx.Cd(h:W.kind=0):cR W l M=zB:=by rw[cR,UY h]
theorem Mx.FF(h:W.kind=3):cR W l M=W.d:=by rw[cR,UX (by omega),UY h]
theorem Mx.FE(h:W.kind=2):cR W l M=atI M W.from_:=by rw[cR,UX (by omega),UX (by omega),UY h]
theorem Mx.Cc(h0:¬W.kind=0)(h2:¬W.kind=2)(a:¬W.kind=3):cR W l M=atI l W.from_:=by rw[cR,UX h0,UX a,UX h2]
def vd:Option B8->V_
 |some y=>.tuple #[y,Zl true]
 |none=>.tuple #[(),Zl false]
theorem vU:
 C_ prog 280 #[.agg #[],.agg (Zp W.at_ W.kind W.from_ W.d)] w λe a=>e=Zv (vd (some zB))/\OS w a:=by
 go_enter func280,ntmps280;go_wp2;exact UM (v:=.tuple #[(),.bool true]) (by simp[results,results280,go_sem]) rfl ⟨rfl,(((af).alloc (by simp) _).alloc (by simp;omega) _)⟩
theorem vT:
 C_ prog 285 #[.agg #[],.agg (Zp W.at_ W.kind W.from_ W.d)] w λe a=>e=Zv (vd (some W.d))/\OS w a:=by
 go_enter func285,ntmps285;go_wp2;exact UM (v:=.tuple #[W.d,.bool true]) (by simp[results,results285,go_sem]) rfl ⟨rfl,(((af).alloc (by simp) _).alloc (by simp;omega) _)⟩
theorem pg(q:Pk)(s:Nat)(e:BL w a g l):
 C_ prog 282 #[(a,g,s),.agg (Zp q.at_ q.kind q.from_ q.d)] w λr p=>r=Zv (vd (atI l q.from_))/\OS w p:=by
 have t:g<=maxLen:=e.2.2.1;unfold maxLen at t;have h:=Y e;clear e;by_cases d:q.from_<0
 ·have b:=Y (vg (l:=l) (i:=q.from_) (.inl d));have f:decide (q.from_<0)=true:=by simpa using d
  go_enter func282,ntmps282;go_wp2;exact UM (v:=.tuple #[(),.bool false]) (by simp[results,results282,go_sem]) rfl ⟨by rw[b]<;>rfl,((af).alloc (by simp) _)⟩
 ·have f:decide (q.from_<0)=false:=by simpa using d
  by_cases c:(g:Int)<=q.from_
  ·have b:=Y (vg (l:=l) (i:=q.from_) (.inr (by rw[h.1];exact c)));have j:decide ((g:Int)<=q.from_)=true:=by simpa using c
   go_enter func282,ntmps282;go_wp2;exact UM (v:=.tuple #[(),.bool false]) (by simp[results,results282,go_sem]) rfl ⟨by rw[b]<;>rfl,((af).alloc (by simp) _)⟩
  ·have j:decide ((g:Int)<=q.from_)=false:=by simpa using c
   obtain⟨k,m⟩:∃k:Nat,q.from_=k:=⟨q.from_.toNat,by omega⟩;obtain⟨u,I,y,rfl,F,o,z,B,H,A,G,C,D,x⟩:=h.at_ k (by omega);have b:H_ (atI l (k:Int)=y):=vh rfl o;have E:(k:Int)<g:=by omega
   rw[m] at f j ⊢;clear m d c;go_enter func282,ntmps282;go_wp2;exact UM (v:=.tuple #[y,.bool true]) (by simp[results,results282,go_sem]) rfl ⟨by rw[b]<;>rfl,((af).alloc (by simp) _)⟩
theorem pM(f:QL w a m X)(hn:g<=1000):
 C_ prog 257 #[(a,m,c),g] w λC w'=>C=Zv (aJ (qE g X))/\OS w w':=by
 have ai:m<=maxLen:=f.2.2.1;unfold maxLen at ai;have HP:=Y f;have HN:=Y f.1;clear f;go_enter func257,ntmps257;go_wp2_with fail;go_loopw [12] (λH wr=>∃k:Nat,k<=m/\H=Zb (k:Int)/\H_ (qTo g X k)/\H_ (Bx wr w #[Zb (il X k),g] 175)/\H_ (OS w wr)) (λH _=>m-(intOf H).toNat)
 case atStart=>exact⟨0,by omega,rfl,xi _ _,Bx.new _ _ _,af⟩
 case round=>
  obtain⟨k,hk,rfl,t,u,q⟩:=hrel;by_cases ae:k<m
  ·have⟨ak,al,p,ag,_,D,G,B,P,T,N,M,V,S,Z,O,I⟩:=(HP.later q).at_ k ae;subst ag;have E:=Y D;have J:=Y (mU D);have R:=Y (xe t);have⟨z,l⟩:=ZX p.at_;have⟨b,j⟩:=ZX p.kind;have⟨U,r⟩:=ZX (il X k);rw[<-l] at G J;rw[<-j] at B;rw[<-r] at u R;clear D;have⟨e,h⟩:=ZX (wr.alloc (.cells (Zp z b p.from_ p.d) 109));have x:H_ (Bx e w #[U,g] 175):=(by rw[h];exact u.alloc _);have P1:H_ (Bx e wr (Zp z b p.from_ p.d) 109):=(by rw[h];exact Bx.new _ _ _);have L:H_ (OS w e):=(by rw[h];exact q.alloc q.size _);have aj:=u.lt;go_wp2_with fail;rw[<-h];by_cases F:U<=z/\z<(g:Int)
   ·refine(xH x F.1 F.2 (by omega) R).mono ?_;rintro C s ⟨rfl,rfl⟩;have Q:H_ (Bx (e.setCell w (Zb (z+1))) w #[Zb (il X (k+1)),g] 175):=(by rw[J];exact x.set 0 _);have o:=Y (L.setCell (p:=w) (OJ w) (Zb (z+1)));have W:=Y (P1.other ⟨w,0,none⟩ (Zb (z+1)) (by show wr≠w.heap.size;omega));have⟨s,ah⟩:=ZX (e.setCell w (Zb (z+1)));rw[<-ah] at Q o W ⊢;clear G B P T N M V S Z O I;have c1:s.cell? (wr,1)=Zb b:=W.cell 1;by_cases hq:0<=b/\b<4
    ·have ad:=Y (xh t E (by rw[<-r,qOk,<-l,<-j];simp;omega));have K:decide (b<0)=false:=by simp;omega
     have ab:decide (4<=b)=false:=by simp;omega
     go_wp2_with fail;go_roundw
     case rel=>exact⟨k+1,by omega,by go_num,ad,Q,o⟩
     case measure=>simp[intOf];omega
    ·have d:=Y (Fm E (by rw[<-r,qOk,<-l,<-j];simp;omega):qE g X=1);by_cases h0:b<0
     ·have K:decide (b<0)=true:=by simpa using h0
      go_wp2_with fail;go_ret;exact⟨by rw[d]<;>rfl,o⟩
     ·have K:decide (b<0)=false:=by simpa using h0
      have ab:decide (4<=b)=true:=by simp;omega
      go_wp2_with fail;go_ret;exact⟨by rw[d]<;>rfl,o⟩
   ·have d:=Y (Fm E (by rw[<-r,qOk,<-l,<-j];simp;omega):qE g X=1);refine(zV z x (by omega)).mono ?_;rintro C s ⟨rfl,rfl⟩;clear G B P T N M V S Z O I F;go_wp2_with fail;go_ret;exact⟨by rw[d]<;>rfl,L⟩
  ·have d:=Y (Fl t (by have:=HN.o;omega));go_wp2_with fail;go_ret;exact⟨by rw[d]<;>rfl,q⟩
theorem ay.room(h:ay w g u l):∃a c,u=.slice a l.length c/\l.length<=c/\BL w a l.length l:=by
 have⟨a,c,b,hc,d,_⟩:=aF h;exact⟨a,c,b,hc,rfl,d⟩
theorem Kk(F:BL w a g l)(o:QL w q m X)(hc:g<=c)(z:cF l=0):
 C_ prog 214 #[(a,g,c),(q,m,j)] w λv Q=>∃f e,v=Zr #[.slice f (bY l X).length e,Zn]/\H_ (ay Q w (.slice f (bY l X).length e) (bY l X))/\H_ (OS w Q):=by
 have ai:m<=maxLen:=o.2.2.1;unfold maxLen at ai;have S:=Y F;have N:=Y o;have H8:=Y (show g<=8 by have h1:=((kA l).1 z).1;have h2:=F.1;omega);have ae:=Y z;have HV:=Y (show aJ (cF l)=Zn by rw[z];rfl);clear F o z;go_enter func214,ntmps214;go_wp2_with fail;refine(mj S hc).mono ?_;rintro v w1 ⟨rfl,K⟩;rw[HV];have D:=Y K;clear K;go_wp2_with fail;refine(jO c (S.later D) (by have:=H8.o;omega)).mono ?_;rintro v w2 ⟨v2,rfl,I,W⟩;have B2:=Y (D.t W);obtain⟨a2,c2,rfl,_⟩:=I.room;have L2:H_ (ay w2 w _ l):=World.ownsRow.mono I D.size;clear W I;go_wp2_with fail;go_loopw [7,21] (λT J wr=>∃(k r:Nat) (f:Option A_) (e:Nat),k<=m/\J=Zb (k:Int)/\T=.slice f r e/\H_ (r=(bY l (X.take k)).length)/\H_ (ay wr w (.slice f r e) (bY l (X.take k)))/\H_ (OS w wr)) (λ_ J _=>m-(intOf J).toNat)
 case atStart=>exact⟨0,l.length,a2,c2,by omega,rfl,rfl,Y rfl,L2,B2⟩
 case round=>
  obtain⟨k,r,f,e,hk,rfl,rfl,y,u,A⟩:=hrel;by_cases ad:k<m
  ·obtain⟨aj,ak,b,rfl,hb,o,e0,R,e2,e3,e4,e5,e6,e7,e8,e9,Z⟩:=(N.later A).at_ k ad;have M:=Y o;clear o;have h:=Y (af (v:=wr) (P:=.cells (Zp b.at_ b.kind b.from_ b.d) 109));by_cases p:b.kind=3
   ·have s:=Y (show bY l (X.take (k+1))=bG (bY l (X.take k)) b.d by rw[rq M,UY p]);rw[p] at R;have⟨C,t⟩:=ZX (wr.alloc (.cells (Zp b.at_ 3 b.from_ b.d) 109));go_wp2_with fail;rw[<-t];rw[p,<-t] at h;have E:H_ (ay C w _ (bY l (X.take k))):=aW u h;have x:=Y (A.t h);clear e0 R e2 e3 e4 e5 e6 e7 e8 e9 Z h;have⟨ax,cx,B,G,H⟩:=E.room;rw[<-y] at B G H;obtain⟨rfl,rfl⟩:f=ax/\e=cx:=by simpa using B
    refine(Gd (d:=b.d) H G (tD ae _)).mono ?_;clear B G H;rintro v w6 ⟨g6,c6,rfl,V,O⟩;have B6:=Y (x.t O);have L:H_ (ay w6 w _ (bG (bY l (X.take k)) b.d)):=World.ownsRow.mono V x.size;clear O V;have⟨ag,U⟩:=ZX ((bG (bY l (X.take k)) b.d).length);rw[<-U] at L ⊢;go_wp2_with fail;go_roundw
    case rel=>exact⟨k+1,ag,_,c6,by omega,by go_num,rfl,by rw[s];exact U,by rw[s];exact L,B6⟩
    case measure=>simp[intOf];omega
   ·have s:=Y (show bY l (X.take (k+1))=bY l (X.take k) by rw[rq M,UX p]);have al:(b.kind==3)=false:=by simpa using p
    have⟨C,t⟩:=ZX (wr.alloc (.cells (Zp b.at_ b.kind b.from_ b.d) 109));go_wp2_with fail;rw[<-t];rw[<-t] at h;have E:H_ (ay C w _ (bY l (X.take k))):=aW u h;have x:=Y (A.t h);go_roundw
    case rel=>exact⟨k+1,r,f,e,by omega,by go_num,rfl,by rw[s];exact y,by rw[s];exact E,x⟩
    case measure=>simp[intOf];omega
  ·have HT:H_ (X.take k=X):=OL (by have:=N.1;omega);go_wp2_with fail;rw[HT] at y u;have ab:=y.o;subst ab;exact UM (by simp[results,results214,go_sem]) rfl ⟨f,e,rfl,u,A⟩
