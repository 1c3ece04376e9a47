import Derived.RangeFuncNested
import Derived.RangeFuncBound
import Derived.Shelf.Abstract
import Derived.OwnWalkIn
import Derived.TacticsInMore
import Derived.LoopNIn
import Derived.LoopIn
import Derived.Test.YtgklbhiamepfoaaGreatDoorZ6
set_option maxHeartbeats 16000000
set_option maxRecDepth 100000
namespace Go.Proofs.YtgklbhiamepfoaaGreatDoor
open Go renaming World->W_,Value->V_,Calls->C_,Addr->A_
open Go.Proofs.Tryz Mx
variable {g k m c j i h b:Nat}{u z y:W_}{L J:List Int}{q:Option A_}{Z:Option Nat}{V N G:V_}{X:Act}{U:Exit->Act->W_->Prop}{T M:Operand}{S:Array V_}{R:TypeId}{Q:Array Oper}{O:Oper}{H:List V_}{t:Int}
section
open Go.RowKit Go.Shelf
variable {n₀ Bs:Nat}
attribute [local go_sem] Oper.semAt_some
structure B8 where
 z0:Int
 z1:Int
 z2:Int
 z3:Int
 z4:Int
 z5:Int
 z6:Int
 z7:Int
instance:Coe B8 (Array V_):=⟨fun x=>#[.int .u8 x.z0,.int .u8 x.z1,.int .u8 x.z2,.int .u8 x.z3,.int .u8 x.z4,.int .u8 x.z5,.int .u8 x.z6,.int .u8 x.z7]⟩
instance:Coe B8 V_:=⟨fun x=>.agg #[.int .u8 x.z0,.int .u8 x.z1,.int .u8 x.z2,.int .u8 x.z3,.int .u8 x.z4,.int .u8 x.z5,.int .u8 x.z6,.int .u8 x.z7]⟩
instance:Coe Unit (Array V_):=⟨fun _=>#[.int .u8 0,.int .u8 0,.int .u8 0,.int .u8 0,.int .u8 0,.int .u8 0,.int .u8 0,.int .u8 0]⟩
instance:Coe Unit V_:=⟨fun _=>.agg #[.int .u8 0,.int .u8 0,.int .u8 0,.int .u8 0,.int .u8 0,.int .u8 0,.int .u8 0,.int .u8 0]⟩
def Zp(_ _ _:Int)(_:B8):Fin 9:=0
def Zq(_:Int)(_:B8):Fin 9:=0
def Zk:Fin 9:=4
def Zo:Fin 9:=5
instance{x y z:Int}{d:B8}:CoeDep (Fin 9) (Zp x y z d) (Array V_):=⟨#[.int .i64 x,.int .i64 y,.int .i64 z,.int .u8 d.z0,.int .u8 d.z1,.int .u8 d.z2,.int .u8 d.z3,.int .u8 d.z4,.int .u8 d.z5,.int .u8 d.z6,.int .u8 d.z7]⟩
instance{x:Int}{d:B8}:CoeDep (Fin 9) (Zq x d) (Array V_):=⟨#[.int .i64 x,.int .u8 d.z0,.int .u8 d.z1,.int .u8 d.z2,.int .u8 d.z3,.int .u8 d.z4,.int .u8 d.z5,.int .u8 d.z6,.int .u8 d.z7]⟩
instance:CoeDep (Fin 9) Zk (Array V_):=⟨#[.int .i64 0,.int .i64 0,.int .i64 0,.int .u8 0,.int .u8 0,.int .u8 0,.int .u8 0,.int .u8 0,.int .u8 0,.int .u8 0,.int .u8 0]⟩
instance:CoeDep (Fin 9) Zo (Array V_):=⟨#[.int .i64 0,.int .u8 0,.int .u8 0,.int .u8 0,.int .u8 0,.int .u8 0,.int .u8 0,.int .u8 0,.int .u8 0,.int .i64 0,.int .i64 0,.int .i64 0,.slice none 0 0]⟩
def B8.jJ(x:B8):Array V_:=x
def B8.list(x:B8):List Int:=[x.z0,x.z1,x.z2,x.z3,x.z4,x.z5,x.z6,x.z7]
def mh(bs:List Int)(k:Nat):B8:=⟨bs.getD (8*k) 0,bs.getD (8*k+1) 0,bs.getD (8*k+2) 0,bs.getD (8*k+3) 0,bs.getD (8*k+4) 0,bs.getD (8*k+5) 0,bs.getD (8*k+6) 0,bs.getD (8*k+7) 0⟩
def fb(bs:List Int)(k:Nat):List B8:=(List.range k).map (mh bs)
theorem lq:fb L (k+1)=fb L k++[mh L k]:=by simp[fb,Ui]
theorem qD(bs:List Int)(k:Nat):(fb bs k).length=k:=by simp[fb]
def KpS(n₀ Bs:Nat)(W W':W_):Prop:=Below n₀ W W'/\W'.heap[Bs]?=W.heap[Bs]?
theorem Kl(hn:1<=g)(hm:m<=1000)(ad:8*m<=h)(S:b<j)(J K:List B8->W_->Prop)(ai:j<=u)(ah:c<u)(hJ:AbidesFrom u J)(O:∀f x u,J f u->f.length<m->YieldAt Fence.wide (g-1) prog k #[.agg x.jJ] u λt r=>
   (t=Zv (Zl true)/\J (f++[x]) r/\KpS j c u r)\/(t=Zv (Zl false)/\K (f++[x]) r))(hBs:u.cell? c=(b,i,(8*m),h))(hc:∀e,e<8*m->u.cell? (b,i+e)=Za (L.getD e 0))(h0:J [] u):
 CallsIn Fence.wide g prog 253 #[.func (.yield k) #[] #[],(c,0)] u λt r=>(∃v,t=Zv v)/\
  ((∃M,M=fb L m/\J M r)\/(∃f,(∃d,d<=m/\f=fb L d)/\K f r)):=by
 have U:=Y hc;clear hc;refine callsIn_of_wp func253 rfl trivial ?_ rfl;simp only[ntmps253,EQ,fd,ut,Nat.reduceAdd,Nat.reduceSub,ww,AC,LE,fI,pp,i6];gi_wp2;gi_loopw [3] (λo wr=>∃d:Nat,d<=m/\o=Zb ((8*d:Nat):Int)/\J (fb L d) wr/\Below j u wr/\wr.heap[c]?=u.heap[c]?)
  (λo _=>8*m+8-(intOf o).toNat)
 case atStart=>exact⟨0,ol _,rfl,h0,ce _ _,rfl⟩
 case round=>
  obtain⟨d,hk,rfl,I,y,D⟩:=hrel;have ab:=Y D;have ak:wr.cell? c=(b,i,(8*m),h):=(ii (w:=u) (a:=⟨c,0,none⟩) D).trans hBs;clear D;by_cases V:d<m
  ·have R:c<wr:=by have:=y.size;omega
   have ag:(8:Int)*d+8<=h:=by omega
   have af:8*d+8<=h:=by omega
   have aj:(8:Int)*d+8<=8*m:=by omega
   have z:Sem.run prog (Builtin.copy_ #[26,26] 3 #[(wr,8,8),.slice (some (b,i+8*d)) (8*d+8-8*d) (h-8*d)])
    ((wr.alloc (.cells () 65)).drew)=.ok (Zb 8) ((wr.alloc (.cells (mh L d).jJ 65)).drew):=by
    rw[show 8*d+8-8*d=8 by omega];exact vt wr.drew wr 8 (h-8*d) b (i+8*d) 65 () (mh L d).list rfl rfl rfl (by show b<wr;have:=y.size;omega) (by
     intro e X;have s:=U (8*d+e) (by omega);rw[<-y.cell (p:=⟨b,i+(8*d+e),none⟩) S,<-Nat.add_assoc] at s;show wr.cell? (b,i+8*d+e)=_
     rw[s]
     match e,X with
     |0,_=>rfl
     |1,_=>rfl
     |2,_=>rfl
     |3,_=>rfl
     |4,_=>rfl
     |5,_=>rfl
     |6,_=>rfl
     |7,_=>rfl)
   obtain⟨x,s⟩:∃x,Hid (x=mh L d):=⟨_,rfl⟩;rw[<-s] at z;unfold B8.jJ at z;have F:=z;rw[show 8*d+8-8*d=8 by omega] at F;obtain⟨q,B⟩:∃q:W_,q=(wr.alloc (.cells x 65)).drew:=⟨_,rfl⟩;have N:wr.grownBy q none:=by
    rw[B];exact⟨rfl,rfl,rfl,by simp,λo Z _=>pi wr _ o Z⟩
   have Q:Below j wr q:=(ce j wr).grown N (by have:=y.size;omega) (λo C=>by cases C);have⟨fn,am,assign,body,H,G⟩:=O (fb L d) x q (hJ _ wr q none I N (λae C=>by cases C)) (by rw[qD];exact V);unfold B8.jJ at H;rw[B] at H G;gi_wp2;gi_region;clear z F;gi_wp2;apply G.mono;rintro t W3 (⟨rfl,T,E⟩|⟨rfl,P⟩)
   ·gi_wp2;go_roundw
    case rel=>exact⟨d+1,by omega,by go_num,by rw[lq,<-s];exact T,y.trans (Q.trans (by rw[B];exact E.1)),E.2.trans ((pi wr _ c R).trans ab)⟩
    case measure=>simp[intOf];omega
   ·gi_wp2;apply UM (results_none rfl _ _ _) rfl;exact⟨⟨_,rfl⟩,.inr ⟨_,⟨d+1,by omega,by rw[lq,<-s]⟩,P⟩⟩
  ·obtain rfl:d=m:=by omega
   gi_wp2;go_end0;exact⟨⟨_,rfl⟩,.inl ⟨_,rfl,I⟩⟩
theorem xT:
 CallsIn Fence.wide g prog 243 #[(q,k,m)] u λe b=>e=Zv (.func (.func 253) #[] #[(u,0)])/\b=u.alloc (.cells #[(q,k,m)] 26):=by
 refine callsIn_of_wp func243 rfl trivial ?_ rfl;simp only[ntmps243,EQ,fd,ut,Nat.reduceAdd,Nat.reduceSub,ww,AC,LE,fI,pp,i6];gi_wp2;go_ret;exact⟨rfl,rfl⟩
theorem AK(r:1<=g)(F:m<=1000)(s:8*m<=i)(D:b<c)(y:c<=u)(f:k<u)(hBs:u.cell? k=(b,j,(8*m),i))(hc:∀d,d<8*m->u.cell? (b,j+d)=Za (L.getD d 0)):
 SeqStopsK Fence.wide g prog 253 #[(k,0)] (λx:B8=>#[.agg x.jJ]) (KpS c k) (λE=>E=fb L m) (λz=>∃o,o<=m/\z=fb L o) m u:=λl J t W e C _ q h0=>
 Kl r (L:=L) F s D J t (OP y e.size) (OE f e.size) C q ((e.cell (p:=k) f).trans hBs)
  (λd B=>(e.cell (p:=(b,j+d)) (by show b<_;omega)).trans (hc d B)) h0
theorem JJ(h:KpS n₀ Bs u z)(k:KpS n₀ Bs z y):KpS n₀ Bs u y:=⟨h.1.trans k.1,k.2.trans h.2⟩
theorem ry(c:n₀<=u)(f:Bs<u)(W:W_)(l:Nat)(o b:Obj)(d:u<=l)(h:W.heap[l]?=o)(h1:o.isCells=false)(h2:o.isWalk=false):KpS n₀ Bs W (W.putObj l b):=
 ⟨belowK_b c W l o b d h h1 h2,(grownBy_putObj' W l b).block Bs (by have:=(co.1 h).1;omega) (λe=>by cases e;omega)⟩
end
section
variable {l al bs:List Int}{A nb:Nat}{kind:Int}
namespace Mx
def fv(l:List Int)(kind:Int)(al:List Int)(nb:Nat)(bs:List Int):Prop:=
 may kind al nb=0/\bs.length=8*nb/\(∀x∈bs,0<=x/\x<=255)/\dW kind al nb bs=l
def gw(l al:List Int)(A:Nat):Prop:=
 (∃x0 x1,l=x0::x1::(ca al++l.drop A))/\A=2+(ca al).length/\∀x∈al,0<=x/\x<=2147483647
theorem gw.start(l:List Int)(h:2<=l.length):gw l [] 2:=by
 match l,h with
 |x0::x1::r,_=>exact⟨⟨x0,x1,by simp[ca]⟩,by simp[ca],by simp⟩
theorem gw.step(h:gw l al A)(h2:k<=(l.drop A).length)(p:g<=2147483647)(c:(l.drop A).take k=cT g):gw l (al++[(g:Int)]) (A+k):=by
 have⟨⟨j,f,o⟩,i,m⟩:=h;have d:(cT g).length=k:=by rw[<-c,OM];omega
 have b:ca (al++[(g:Int)])=ca al++cT g:=by rw[pA];simp[ca]
 refine⟨⟨j,f,?_⟩,?_,?_⟩
 ·rw[b,eq,<-c,<-List.drop_drop,qr];exact o
 ·rw[b,OC,d,i];omega
 ·intro x e;rcases ip.1 e with h|h
  ·exact m x h
  ·simp at h;omega
theorem fv.rest(h:gw l al A)(d:fv l kind L nb bs)(q:al.length<=L.length):
 al=L.take al.length/\l.drop A=ca (L.drop al.length)++bs/\l.getD 0 0=16*kind+(L.length:Int)/\l.getD 1 0=(nb:Int):=by
 have⟨⟨z,u,i⟩,y,g⟩:=h;have⟨m,r,t,f⟩:=d;have⟨s,o,B,p,e⟩:=eu m;have b:l=(16*kind+(L.length:Int))::(nb:Int)::(ca L++bs):=by rw[<-f];simp[dW]
 have c:ca al++l.drop A=ca L++bs:=by
  have:=i.symm.trans b;simp only[List.cons.injEq] at this;exact this.2.2
 have j:ca L=ca (L.take al.length)++ca (L.drop al.length):=by rw[<-pA,qr]
 rw[j,eq] at c;have⟨c1,c2⟩:=wQ al (L.take al.length) _ _ g (λx k=>e x (f9 k)) (by rw[OM];omega) c;exact⟨c1,c2,by rw[b];rfl,by rw[b];rfl⟩
theorem gw.none(h:gw l al A)(i:(al.length:Int)<l.getD 0 0%16)(e:∀x t,x<=2147483647->l.drop A≠cT x++t):∀kind b nb bs,¬fv l kind b nb bs:=by
 intro kind b nb bs c;have f:=eu c.1;rcases Uk al.length b.length with d|hge
 ·have⟨_,c2,c3,_⟩:=c.rest h (by omega);have k:=f.2.2.2.2 b[al.length] (TJ d);rw[Fn d] at c2;have g:∀z (l:List Int),ca (z::l)=cT z.toNat++ca l:=λz l=>by simp[ca]
  rw[g,eq] at c2;exact e _ _ (by omega) c2
 ·have j:l.getD 0 0=16*kind+(b.length:Int):=by rw[<-c.2.2.2];rfl
  omega
theorem gw.done(h:gw l al A)(g:l.getD 0 0%16=(al.length:Int)):∀kind b nb bs,fv l kind b nb bs->al=b/\l.drop A=bs/\l.getD 1 0=(nb:Int)/\kind=l.getD 0 0/16:=by
 intro kind b nb bs c;have e:=eu c.1;have f:l.getD 0 0=16*kind+(b.length:Int):=by rw[<-c.2.2.2];rfl
 have i:b.length=al.length:=by omega
 have⟨c1,c2,_,c4⟩:=c.rest h (by omega);rw[OL (by omega)] at c1;have d:b.drop al.length=[]:=List.drop_eq_nil_of_le (by omega);rw[d,show ca []=[] from rfl,pp] at c2;exact⟨c1,c2,c4,by omega⟩
theorem gw.AA{c0 c1:Nat}(h:gw l al A)(h0:l.getD 0 0=(c0:Int))(h1:l.getD 1 0=(c1:Int))(hc:c0<=255)(f:(c0:Int)%16=(al.length:Int))(s:al.length<=12)(t:c1<=32)(c:(l.drop A).length=8*c1)(e:∀x∈l,0<=x/\x<=255):fv l ((c0:Int)/16) al c1 (l.drop A):=by
 have⟨⟨q,o,b⟩,u,g⟩:=h;refine⟨?_,c,λx m=>e x (In m),?_⟩
 ·apply oe
  ·omega
  ·omega
  ·intro j i;have p:=g _ (pQ i);generalize al.getD j 0=z at p;unfold bH;simp;omega
 ·have r:q=(c0:Int):=by rw[<-h0,b];rfl
  have d:o=(c1:Int):=by rw[<-h1,b];rfl
  conv=>rhs;rw[b]
  unfold dW;rw[r,d,<-f];simp;omega
theorem aI.body(h:aI l kind al nb bs):fv (l.take (l.length-4)) kind al nb bs/\l.drop (l.length-4)=eJ (crc (l.take (l.length-4))):=by
 have e:l=dW kind al nb bs++eJ (crc (dW kind al nb bs)):=h.2.2.2.symm;have b:l.length-4=(dW kind al nb bs).length:=by
  have:=congrArg List.length e;rw[OC,jx] at this;omega
 have c:l.take (l.length-4)=dW kind al nb bs:=by rw[b];conv=>lhs;rw[e];rw[UC]
 have hd:l.drop (l.length-4)=eJ (crc (dW kind al nb bs)):=by rw[b];conv=>lhs;rw[e];rw[List.drop_left]
 rw[c,hd];exact⟨⟨h.1,h.2.1,h.2.2.1,rfl⟩,rfl⟩
theorem fv.frame(h:fv (l.take (l.length-4)) kind al nb bs)(hs:l.drop (l.length-4)=eJ (crc (l.take (l.length-4)))):aI l kind al nb bs:=by
 refine⟨h.1,h.2.1,h.2.2.1,?_⟩;unfold bF;rw[h.2.2.2,<-hs,qr]
end Mx
end
section
open Go.RowKit Go.Shelf
variable {W:W_}{n:Nat}{a:Option A_}{l:List Int}
attribute [local go_sem] Oper.semAt_some
theorem fF.drew{w wr:W_}{c b d:V_}(h:fF w wr c b d):fF w wr.drew c b d:=⟨h.1,h.2.1,h.2.2.1.drew,h.2.2.2⟩
def flat(pre:List B8):List Int:=pre.flatMap B8.list
theorem tu(b:List B8)(x:B8):flat (b++[x])=flat b++x.list:=by simp[flat]
theorem mC(b:List B8):(flat b).length=8*b.length:=by
 induction b with
 |nil=>rfl
 |cons x b c=>simp[flat,B8.list] at*;omega
theorem Gp(h:8*k+8<=L.length):L.take (8*(k+1))=L.take (8*k)++(mh L k).list:=by
 rw[show 8*(k+1)=8*k+1+1+1+1+1+1+1+1 by omega];rw[cK L _ _ (by omega) rfl,cK L _ _ (by omega) rfl,cK L _ _ (by omega) rfl,cK L _ _ (by omega) rfl,
  cK L _ _ (by omega) rfl,cK L _ _ (by omega) rfl,cK L _ _ (by omega) rfl,cK L _ _ (by omega) rfl]
 simp only[eq,i6,pp,B8.list,mh]
theorem yd(k:Nat)(h:8*k<=L.length):flat (fb L k)=L.take (8*k):=by
 induction k with
 |zero=>simp[fb,flat]
 |succ k b=>rw[lq,tu,b (by omega),Gp (L:=L) (k:=k) (by omega)]
def nI(w:W_)(C:Nat)(k0 v1:V_)(al:List Int)(pre:List B8)(W:W_):Prop:=
 ∃v2,fF w W k0 v1 v2/\ja W C v2 pre.length (flat pre)/\bB W (w+2) v1 al/\C<=W
def LAx(C:Nat)(T:Array V_)(x:B8)(a':Act)(W:W_):Prop:=
 ∃Bx,C<=Bx/\W.heap[Bx]?=some (.cells x.jJ 65 (0,0))/\a'={tmps:=(T.setIfInBounds 64 (.agg x.jJ)).setIfInBounds 10 (.pointer (some ⟨Bx,0,none⟩)),defers:=[]}
theorem gG(h:W.ownsRow k m c V n H)(d:W.grownBy u Z)(e:∀r,Z=some r->∃o:Obj,W.heap[r]?=o/\o.isCells=false):u.ownsRow k m c V n H:=by
 apply h.kept d;rcases h.2 with ⟨rfl,_⟩|⟨g,i,j,rfl,_,f,_⟩
 ·exact .inl rfl
 ·refine .inr λm=>?_
  have⟨o,b,hc⟩:=e g (by rw[<-m];rfl);rw[f] at b;cases b
  cases hc
theorem bX(h:W.heap[g]?=some (.cells S R (0,0)))(c:W.grownBy u Z)(d:∀r,Z=some r->∃o:Obj,W.heap[r]?=o/\o.isCells=false):u.heap[g]?=some (.cells S R (0,0)):=by
 refine(c.block g (co.1 h).1 (λe=>?_)).trans h;have⟨o,b,hc⟩:=d g e.symm;rw[h] at b;cases b
 cases hc
theorem aD.grow(h:aD W a n l)(b:W.grownBy u Z)(d:∀r,Z=some r->∃o:Obj,W.heap[r]?=o/\o.isCells=false):aD u a n l:=by
 have⟨h1,h2,j⟩:=h;refine⟨h1,h2,λc=>?_⟩;have⟨f,k,g,m,hc⟩:=j c;exact⟨f,k,g,by have:=b.size;omega,λi e=>cell_kept (hc i e) b d⟩
theorem bm.grow(h:bm W a n l)(b:W.grownBy u Z)(d:∀r,Z=some r->∃o:Obj,W.heap[r]?=o/\o.isCells=false):bm u a n l:=by
 have⟨h1,h2,f,k⟩:=h;refine⟨h1,h2,f,λc=>?_⟩;have⟨g,m,j,p,hc⟩:=k c;exact⟨g,m,j,by have:=b.size;omega,λi e=>cell_kept (hc i e) b d⟩
theorem nr{F:Fence}{rest:List Oper}(E:O.guard=none)(V:O.op=.call {callee:=.builtin .append,args:=#[T,M],argTypes:=#[76,76]})(d:ja u m (X.eval T) c L)(i:J.length=8)(D:S=(J.map (Value.int .u8)).toArray)(hx:X.eval M=(u,1,1))(af:c<=1000000)(G:m<=u)(P:∀p j b,ja b m (.slice (some p) (c+1) j) (c+1) (L++J)->Below m u b->KeepsOthers u b->wpListIn F k prog Q U rest (X.put O.dst (.slice (some p) (c+1) j)) b):
 wpListIn F k prog Q U (O::rest) X (u.alloc (.cells S 65)):=by
 have⟨t,hi,y,H,ab⟩:=info_parts Tryz.info65;refine wpListIn_append_own _ E T M 76 V m 65 t _ 8 8 Tryz.underlying76 hi y H ab rfl (by decide) (X.eval T) c (L.map (Value.int .u8)) rfl (World.ownsRow.alloc d.2 _) ⟨u,0,none⟩ 1 1 (J.map (Value.int .u8)) hx (by simp[i]) (mm u (O:=65) D) ?_ (by unfold maxLen;omega) (by omega) (by simp;omega) ?_
 ·intro ai C;obtain⟨ah,_,rfl⟩:=m8.1 C;rfl
 ·intro N b r o _;have z:Below m u b:=((ce m u).alloc G _).grown o (by simp;omega) (λY h=>(World.ownsRow.lt d.2 Y h).1);have s:ja b m N (c+1) (L++J):=⟨by rw[OC,d.1,i];omega,by rw[le];exact r⟩;have h:KeepsOthers u b:=(KeepsOthers.alloc u _).trans (KeepsOthers.of_grownBy o (by
   intro aj o' e q;have I:=World.ownsRow.alloc d.2 (.cells S 65);rcases I.2 with ⟨f,_⟩|⟨g,B,ae,f,_,R,_⟩
   ·rw[f] at e;cases e
   ·rw[f] at e
    cases e
    rw[R] at q;cases q
    rfl))
  rcases r.2 with ⟨_,K⟩|⟨g,B,ae,rfl,ag,_⟩
  ·simp at K
  ·exact P _ _ b s z h
theorem cD(h:W.heap[g]?=some (.cells S R (0,0)))(j:Nat):W.cell? (g,j)=S[j]?:=by
 unfold World.cell?;rw[h];rfl
theorem wj(t:u+2<=g):OwnFrom g (nI u g V N L):=by
 rintro s W z Z ⟨i,⟨p,k,j,q⟩,d,h,hs⟩ b f;have c:∀r,Z=some r->∃o:Obj,W.heap[r]?=o/\o.isCells=false:=λr e=>(f r e).2
 refine⟨i,⟨bX p b c,bX k b c,j.grown b (by omega) (λm e=>by have:=(f m e).1;omega),by have:=b.size;omega⟩,⟨d.1,gG d.2 b c⟩,gG h b c,by have:=b.size;omega⟩
theorem Ko(x:B8)(b:Act):OwnFrom g (λ(_:Unit) W=>LAx g S x b W):=by
 rintro _ W u Z ⟨f,h1,h2,h⟩ c d;exact⟨f,h1,bX h2 c (λr e=>(d r e).2),h⟩
theorem yD{assign body:Code}(s:X.eval T=.func (.func 253) #[] #[(g,0)])(O:m≤1000)(t:8*m≤c)(H:b<z)(q:g<u)(M:z.heap.size+2≤u)(hBs:u.cell? g=(b,k,(8*m),c))(hc:∀o,o<8*m->u.cell? (b,k+o)=Za (J.getD o 0))(h0:nI z u V N L [] u)(C:∀(l:Nat) (d:List B8) (x:B8) (W:W_) (K:Act->W_->Prop),nI z u V N L d W->(∀e y,KeepsFrom u W y->KpS z g W y->nI z u V N L d y->LAx u X.tmps x e y->K e y)->
   assign.wpIn (Fence.wide.inRound l) (6-1-1) prog (Exit.then K (λ_ _ _=>False)) {tmps:=X.tmps.setIfInBounds 64 (.agg x.jJ),defers:=[]} W)(G:∀(l:Nat) (d:List B8) (x:B8) (e:Act) (W:W_),nI z u V N L d W->LAx u X.tmps x e W->d.length<m->
   body.wpIn (Fence.wide.inRound l) (6-1-1) prog (ownPostG u (KpS z g) (nI z u V N L) (λ_ _ _=>False) (d++[x]) W) e W)(B:∀(D:Nat) (W:W_),u<=D->nI z u V N L (fb J m) W->W.heap[D]?=some (.deferred (some []))->U .normal {X with defers:={target:=.collected D,args:=#[]}::X.defers} W):
 (Code.rangeFunc T #[64] assign body).wpIn Fence.wide 6 prog U X u:=by
 refine wpIn_rangeFunc_ownH rfl (by omega) (gf:=253) (lb:=#[.pointer (some ⟨g,0,none⟩)]) s trivial (enters_of Tryz.func253 (by kernel_rfl) rfl)
  (AK (g:=5) (by omega) O t H (by omega) q hBs hc) JJ (ry (by omega) q) (ce _ _) (λ_=>rfl)
  (nI z u V N L) (λ_ _ _=>False) (wj (V:=V) (N:=N) (L:=L) M) (λ_ _ _ _ _ hs _ _=>hs) h0 (LAx u X.tmps) (Ko (g:=u) (S:=X.tmps)) ?_ ?_ ?_ ?_
 ·intro l d x W K f h;have j:=C l d x W K f h;have F:(#[64].zip #[Value.agg x.jJ]).foldl (λ(R:Array V_) (x:Nat×V_)=>match x with|(p,v)=>R.setIfInBounds p v) X.tmps=X.tmps.setIfInBounds 64 (.agg x.jJ):=by simp
  rw[F];exact j
 ·intro l d x e W _ _ f I r;exact G l d x e W f I r
 ·rintro D xs W E rfl f h;exact B D W E f h
 ·intro D P d W _ _ j _;exact j.elim
end
section
open Go.RowKit
variable {α:Type}{w:W_}{a:Option A_}{n size base:Nat}{xs:List V_}{v:V_}
structure Pt where
 at_:Int
 d:B8
def B8.cs(x:B8):List V_:=[Za x.z0,Za x.z1,Za x.z2,Za x.z3,Za x.z4,Za x.z5,Za x.z6,Za x.z7]
def Pt.cs(p:Pt):List V_:=[Zb p.at_,Za p.d.z0,Za p.d.z1,Za p.d.z2,Za p.d.z3,Za p.d.z4,Za p.d.z5,Za p.d.z6,Za p.d.z7]
def bp(l:List B8):List V_:=l.flatMap B8.cs
def ig(l:List Pt):List V_:=l.flatMap Pt.cs
def zB:B8:=⟨0,0,0,0,0,0,0,0⟩
theorem gd(f:α->List V_)(s:Nat)(h:∀x,(f x).length=s)(l:List α):(l.flatMap f).length=l.length*s:=by
 induction l with
 |nil=>simp
 |cons x l b=>rw[Id,OC,h,b,fd,Uv];omega
theorem dJ(f:α->List V_)(h:∀x,(f x).length=g)(l:List α)(k:Nat)(x:α)(b:l[k]?=some x)(c:j<g):(l.flatMap f)[k*g+j]?=(f x)[j]?:=by
 induction l generalizing k with
 |nil=>simp at b
 |cons y l d=>
  rw[Id];cases k with
  |zero=>
   simp at b;subst b;rw[Nat.zero_mul,m9,OO (by rw[h];exact c)]
  |succ k=>
   simp at b;rw[ON (by rw[h,Uv];omega),h,show(k+1)*g+j-g=k*g+j by rw[Uv];omega];exact d k b
theorem pb(f:α->List V_)(s:Nat)(h:∀x,(f x).length=s)(l:List α)(k:Nat)(x:α)(b:k<l.length):
 (l.set k x).flatMap f=(l.flatMap f).take (k*s)++f x++(l.flatMap f).drop (k*s+s):=by
 induction l generalizing k with
 |nil=>simp at b
 |cons y l c=>
  cases k with
  | zero => simp [List.flatMap_cons, <- h y]
  |succ k=>
   rw[Do,Id,Id,c k (by simpa using b),List.take_append,List.drop_append];rw[OL (l:=f y) (i:=(k+1)*s) (by rw[h,Uv];omega),Pi (l:=f y) (i:=(k+1)*s+s) (by rw[h,Uv];omega),h];rw[show(k+1)*s-s=k*s by rw[Uv];omega,show(k+1)*s+s-s=k*s+s by rw[Uv];omega];simp[List.append_assoc]
theorem cY(l:List B8):(bp l).length=l.length*8:=gd _ 8 (λ_=>rfl) l
theorem kQ{l:List B8}:∀u∈bp l,u.oneCell'=true:=by
 intro u c;have⟨x,_,b⟩:=If.1 c;simp[B8.cs] at b;rcases b with rfl|rfl|rfl|rfl|rfl|rfl|rfl|rfl<;>rfl
theorem ts{l:List Pt}:∀u∈ig l,u.oneCell'=true:=by
 intro u c;have⟨x,_,b⟩:=If.1 c;simp[Pt.cs] at b;rcases b with rfl|rfl|rfl|rfl|rfl|rfl|rfl|rfl|rfl<;>rfl
def dt(w:W_)(a:Option A_)(n size:Nat)(xs:List V_):Prop:=
 xs.length=n*size/\n<=maxLen/\(0<n->∃b off,a=some ⟨b,off,none⟩/\b<w.heap.size/\∀j u,xs[j]?=some u->w.cell? ⟨b,off+j,none⟩=some u)
def BL(w:W_)(a:Option A_)(n:Nat)(l:List B8):Prop:=l.length=n/\dt w a n 8 (bp l)
def PL(w:W_)(a:Option A_)(n:Nat)(l:List Pt):Prop:=l.length=n/\dt w a n 9 (ig l)
theorem dt.later{w':W_}(h:dt w a n size xs)(c:OS w w'):dt w' a n size xs:=by
 have⟨h1,h2,k⟩:=h;refine⟨h1,h2,λf=>?_⟩;have⟨b,d,i,e,hc⟩:=k f;exact⟨b,d,i,by have:=c.size;omega,λj u g=>(c.cell (p:=(b,d+j)) e).trans (hc j u g)⟩
theorem BL.later{w w':W_}{a:Option A_}{n:Nat}{l:List B8}(h:BL w a n l)(b:OS w w'):BL w' a n l:=⟨h.1,h.2.later b⟩
theorem PL.later{w w':W_}{a:Option A_}{n:Nat}{l:List Pt}(h:PL w a n l)(b:OS w w'):PL w' a n l:=⟨h.1,h.2.later b⟩
theorem BL.nil(w:W_):BL w none 0 []:=⟨rfl,rfl,by unfold maxLen;omega,λh=>absurd h (by omega)⟩
theorem PL.nil(w:W_):PL w none 0 []:=⟨rfl,rfl,by unfold maxLen;omega,λh=>absurd h (by omega)⟩
theorem BL.at_{l:List B8}(i:BL w a n l)(k:Nat)(p:k<n):
 ∃b c,∃x:B8,a=some ⟨b,c,none⟩/\b<w/\l[k]?=x/\w.cell? ⟨b,c+k*8,none⟩=Za x.z0/\w.cell? ⟨b,c+k*8+1,none⟩=Za x.z1/\w.cell? ⟨b,c+k*8+2,none⟩=Za x.z2/\
  w.cell? ⟨b,c+k*8+3,none⟩=Za x.z3/\w.cell? ⟨b,c+k*8+4,none⟩=Za x.z4/\w.cell? ⟨b,c+k*8+5,none⟩=Za x.z5/\
  w.cell? ⟨b,c+k*8+6,none⟩=Za x.z6/\w.cell? ⟨b,c+k*8+7,none⟩=Za x.z7:=by
 have⟨h0,h1,h2,m⟩:=i;have⟨b,c,j,f,hc⟩:=m (by omega);have d:l[k]?=l[k]:=Ox (by omega);have e:=λo (h:o<8)=>dJ B8.cs (λ_=>rfl) l k _ d h
 refine⟨b,c,l[k],j,f,d,?_,?_,?_,?_,?_,?_,?_,?_⟩
 ·exact hc (k*8) _ (e 0 (by omega))
 ·exact hc (k*8+1) _ (e 1 (by omega))
 ·exact hc (k*8+2) _ (e 2 (by omega))
 ·exact hc (k*8+3) _ (e 3 (by omega))
 ·exact hc (k*8+4) _ (e 4 (by omega))
 ·exact hc (k*8+5) _ (e 5 (by omega))
 ·exact hc (k*8+6) _ (e 6 (by omega))
 ·exact hc (k*8+7) _ (e 7 (by omega))
theorem PL.at_{w:W_}{a:Option A_}{n:Nat}{l:List Pt}(h:PL w a n l)(k:Nat)(q:k<n):
 ∃b c,∃p:Pt,a=some ⟨b,c,none⟩/\b<w/\l[k]?=p/\w.cell? ⟨b,c+k*9,none⟩=Zb p.at_/\w.cell? ⟨b,c+k*9+1,none⟩=Za p.d.z0/\w.cell? ⟨b,c+k*9+2,none⟩=Za p.d.z1/\
  w.cell? ⟨b,c+k*9+3,none⟩=Za p.d.z2/\w.cell? ⟨b,c+k*9+4,none⟩=Za p.d.z3/\w.cell? ⟨b,c+k*9+5,none⟩=Za p.d.z4/\
  w.cell? ⟨b,c+k*9+6,none⟩=Za p.d.z5/\w.cell? ⟨b,c+k*9+7,none⟩=Za p.d.z6/\w.cell? ⟨b,c+k*9+8,none⟩=Za p.d.z7:=by
 have⟨h0,h1,h2,o⟩:=h;have⟨b,c,m,f,hc⟩:=o (by omega);have d:l[k]?=l[k]:=Ox (by omega);have e:=λj (i:j<9)=>dJ Pt.cs (λ_=>rfl) l k _ d i
 refine⟨b,c,l[k],m,f,d,?_,?_,?_,?_,?_,?_,?_,?_,?_⟩
 ·exact hc (k*9) _ (e 0 (by omega))
 ·exact hc (k*9+1) _ (e 1 (by omega))
 ·exact hc (k*9+2) _ (e 2 (by omega))
 ·exact hc (k*9+3) _ (e 3 (by omega))
 ·exact hc (k*9+4) _ (e 4 (by omega))
 ·exact hc (k*9+5) _ (e 5 (by omega))
 ·exact hc (k*9+6) _ (e 6 (by omega))
 ·exact hc (k*9+7) _ (e 7 (by omega))
 ·exact hc (k*9+8) _ (e 8 (by omega))
def ay(w:W_)(base:Nat)(v:V_)(l:List B8):Prop:=w.ownsRow base 65 8 v l.length (bp l)
def bt(w:W_)(base:Nat)(v:V_)(l:List Pt):Prop:=w.ownsRow base 123 9 v l.length (ig l)
theorem Tryz.info123:(prog.info? 123).map (λi=>(i.zero,i.size,i.bytes))=some (some (.agg #[Zi,Zu,Zu,Zu,Zu,Zu,Zu,Zu,Zu]),9,16):=by kernel_rfl
theorem aF(h:w.ownsRow base g size v n xs):∃a e,v=(a,n,e)/\n<=e/\dt w a n size xs/\∀p,a=some p->base<=p.block:=by
 rcases h.2 with ⟨c,f⟩|⟨b,o,t,c,q,k,r,s,_⟩
 ·subst f;exact⟨none,0,c,OJ _,⟨h.1,by unfold maxLen;omega,λh=>absurd h (by omega)⟩,λp d=>by cases d⟩
 ·have hc:=World.ownsRow.cells h (g:=b) (by rw[c];rfl);refine⟨_,o,c,r,⟨h.1,by omega,λ_=>⟨b,0,rfl,(co.1 k).1,λi u m=>?_⟩⟩,λp d=>by cases d;exact q⟩;have j:(⟨b,0,none⟩:A_).add i=⟨b,0+i,none⟩:=by unfold Addr.add;split<;>simp_all
  rw[<-j];exact hc i u m
theorem ay.bl{l:List B8}(h:ay w base v l):∃a c,v=.slice a l.length c/\BL w a l.length l/\∀p,a=some p->base<=p.block:=by
 have⟨a,c,b,_,e,d⟩:=aF h;exact⟨a,c,b,⟨rfl,e⟩,d⟩
theorem bt.pl{l:List Pt}(h:bt w base v l):∃a c,v=.slice a l.length c/\PL w a l.length l/\∀p,a=some p->base<=p.block:=by
 have⟨a,c,b,_,e,d⟩:=aF h;exact⟨a,c,b,⟨rfl,e⟩,d⟩
namespace Mx
def outside(n:Nat)(p:Pt):Bool:=decide (p.at_<0)||decide ((n:Int)<=p.at_)
def db(n:Nat)(ps:List Pt):Int:=
 if n<1\/200<n\/800<ps.length then 2 else if ps.any (outside n) then 1 else 0
theorem C9{ps:List Pt}(h:n<1\/200<n\/800<ps.length):db n ps=2:=by unfold db;rw[UY h]
theorem GU{b:List Pt}(h:¬(n<1\/200<n\/800<b.length))(k:Nat)(p:Pt)(d:b[k]?=p)(c:outside n p=true):db n b=1:=by
 unfold db;rw[UX h,UY];rw[Uc];exact⟨p,OR d,c⟩
theorem sw{b:List Pt}(h:¬(n<1\/200<n\/800<b.length))(e:∀k p,k<b.length->b[k]?=some p->outside n p=false):db n b=0:=by
 unfold db;rw[UX h,UX];rw[Uc];rintro⟨p,f,d⟩;obtain⟨i,c,rfl⟩:=List.getElem_of_mem f;have:=e i _ c (Ox c);rw[d] at this;cases this
theorem jQ{b:List Pt}(h:db n b=0):1<=n/\n<=200/\b.length<=800/\∀p∈b,0<=p.at_/\p.at_<n:=by
 unfold db at h;split at h
 ·omega
 ·split at h
  ·omega
  ·rename_i h1 h2;refine⟨by omega,by omega,by omega,λp d=>?_⟩;rw[Uc] at h2;have:¬outside n p=true:=λc=>h2 ⟨p,d,c⟩
   simp[outside] at this;omega
end Mx
end
section
open Go.RowKit
variable {n:Nat}{x:Int}
def nH(w wr:W_)(g:Nat)(s0 s1 s2:V_):Prop:=wr.cell? ⟨g,0,none⟩=some s0/\wr.cell? ⟨g,1,none⟩=some s1/\wr.cell? ⟨g,2,none⟩=some s2/\OS w wr/\g<wr
theorem nH.start(w:W_)(c b d:V_):nH w (w.alloc (.cells #[c,b,d] 272)) w c b d:=
 ⟨by rw[lw];rfl,by rw[lw];rfl,by rw[lw];rfl,af,by simp⟩
theorem nH.later{w w':W_}(h:nH w u g V N G)(b:OS u w'):nH w w' g V N G:=
 ⟨(b.cell (p:=g) h.2.2.2.2).trans h.1,(b.cell (p:=(g,1)) h.2.2.2.2).trans h.2.1,(b.cell (p:=(g,2)) h.2.2.2.2).trans h.2.2.1,h.2.2.2.1.trans (b.mono h.2.2.2.1.size),by have:=b.size;have:=h.2.2.2.2;omega⟩
def Mx.inside(n:Nat)(x:Int):Bool:=decide (0<=x/\x<n)
theorem Mx.jZ(h:0<=x/\x<n):inside n x=true:=UR h
theorem Mx.kS(h:¬(0<=x/\x<n)):inside n x=false:=UQ h
theorem zk(d j:Option A_)(f m i:Nat)(left b:Int)(_:g<=maxLen):
 C_ prog 230 #[.agg #[(d,g,f),(j,m,i),left],b] u λe k=>e=Zv (Zl (inside g b))/\OS u k:=by
 by_cases h0:0<=b
 ·by_cases h1:b<g
  ·have c:=Y (jZ (TH h0 h1));go_enter func230,ntmps230;go_wp2;go_ret;exact⟨by rw[c];rfl,af⟩
  ·have c:=Y (kS (n:=g) (x:=b) (λh=>h1 h.2));go_enter func230,ntmps230;go_wp2;go_ret;exact⟨by rw[c];rfl,af⟩
 ·have c:=Y (kS (n:=g) (x:=b) (λh=>h0 h.1));go_enter func230,ntmps230;go_wp2;go_ret;exact⟨by rw[c];rfl,af⟩
theorem iH(r:Option A_)(t B:Nat)(left:Int)(d:List Pt)(c:PL u q m d)(C:g<=maxLen):
 C_ prog 198 #[.agg #[(r,g,t),(q,m,B),left]] u λE L=>E=Zv (aJ (db g d))/\OS u L:=by
 have U:m<=maxLen:=c.2.2.1;have Q:=Y C;unfold maxLen at U C;have K:=Y c;have y:=Y c.1;clear c;by_cases h:g<1\/200<g\/800<m
 ·have b:=Y (C9 (n:=g) (ps:=d) (by rw[y];exact h));by_cases h1:(g:Int)<1
  ·clear h;go_enter func198,ntmps198;go_wp2;go_ret;exact⟨by rw[b];rfl,af⟩
  ·by_cases h2:(200:Int)<g
   ·clear h;go_enter func198,ntmps198;go_wp2;go_ret;exact⟨by rw[b];rfl,af⟩
   ·have M:(800:Int)<m:=by omega
    clear h;go_enter func198,ntmps198;go_wp2;go_ret;exact⟨by rw[b];rfl,af⟩
 ·have h1:¬(g:Int)<1:=by omega
  have h2:¬(200:Int)<g:=by omega
  have M:¬(800:Int)<m:=by omega
  have G:Hid (¬(g<1\/200<g\/800<d.length)):=(by rw[y];exact h);clear h;go_enter func198,ntmps198;go_wp2;go_loopw [4,25] (λ_ o wr=>∃k:Nat,k<=m/\o=Zb k/\Hid (∀j p,j<k->d[j]?=some p->outside g p=false)/\Hid (nH u wr u (r,g,t) (q,m,B) (Zb left))) (λ_ o _=>m-(intOf o).toNat)
  case atStart=>exact⟨0,by omega,rfl,λj p f=>absurd f (by omega),nH.start u _ _ _⟩
  case round=>
   obtain⟨k,hk,rfl,F,i⟩:=hrel;by_cases P:k<m
   ·obtain⟨S,T,p,rfl,hb,H,c0,c1,c2,c3,c4,c5,c6,c7,X⟩:=(K.later i.2.2.2.1).at_ k P;have⟨f0,f1,V,_,hg⟩:=i.o;have⟨x,z⟩:=ZX p.at_;rw[<-z] at c0;have D:=Y H;clear H;go_wp2_with fail;refine(zk r (some ⟨S,T,none⟩) t m B left x Q).mono ?_;rintro E Z ⟨rfl,J⟩;have I:=Y (i.later ((af).trans (J.mono (by simp))));by_cases e:0<=x/\x<g
    ·have R:=Y (show outside g p=false by simp[outside,<-z.o];omega);rw[jZ e];clear e;go_wp2;go_roundw
     case rel=>
      refine⟨k+1,by omega,by go_num,λj N f s=>?_,I⟩;by_cases O:j=k
      ·subst O;rw[D] at s;cases s
       exact R
      ·exact F j N (by omega) s
     case measure=>simp[intOf];omega
    ·have b:=Y (GU G k p D (by simp[outside,<-z.o];omega));rw[kS e];clear e;go_wp2;go_ret;exact⟨by rw[b];rfl,I.2.2.2.1⟩
   ·have b:=Y (sw G (λj p f c=>F j p (by rw[y] at f;omega) c));go_wp2;go_ret;exact⟨by rw[b];rfl,i.2.2.2.1⟩
namespace Mx
def ct(n:Nat)(ps:List Pt)(at_:Int):Int:=if db n ps=0 then(if 0<=at_/\at_<n then 0 else 1) else db n ps
end Mx
theorem jd(k:Option A_)(h j:Nat)(left c:Int)(b:List Pt)(t:PL u q m b)(r:g<=maxLen):
 C_ prog 203 #[.agg #[(k,g,h),(q,m,j),left],c] u λo C=>o=Zv (aJ (ct g b c))/\OS u C:=by
 have y:=Y r;have B:=Y t;clear t r;go_enter func203,ntmps203;go_wp2_with fail;refine(iH k h j left b (B.later (af)) y).mono ?_;rintro o I ⟨rfl,s⟩;have p:=Y ((nH.start u (k,g,h) (q,m,j) (Zb left)).later s);have⟨J,G,H,_,E⟩:=p.o;clear s;by_cases d:db g b=0
 ·have i:=Y d;rw[d,aQ];clear d;go_wp2_with fail;refine(zk k q h m j left c y).mono ?_;rintro o F ⟨rfl,D⟩;have z:=Y (p.later D).2.2.2.1;by_cases e:0<=c/\c<g
  ·have f:=Y (show ct g b c=0 by unfold ct;rw[UY i.o,UY e]);rw[jZ e];clear e;go_wp2;go_ret;exact⟨by rw[f];rfl,z⟩
  ·have f:=Y (show ct g b c=1 by unfold ct;rw[UY i.o,UX e]);rw[kS e];clear e;go_wp2;go_ret;exact⟨by rw[f];rfl,z⟩
 ·have f:=Y (show ct g b c=db g b by unfold ct;rw[UX d]);have i:=Y d;rw[bJ d];clear d;go_wp2;go_ret;exact⟨by rw[f,bJ i];rfl,p.2.2.2.1⟩
end
section
open Go.RowKit Go.Shelf
attribute [local go_sem] Oper.semAt_some
def uX(w w':W_)(l:List Int)(e:Ending):Prop:=
 (∃kind al nb bs a1 c1 a2 c2,e=Zr #[.agg #[Zb kind,.slice a1 al.length c1,.slice a2 nb c2],Zl true]/\fv l kind al nb bs/\aD w' a1 al.length al/\bm w' a2 nb bs/\(∀p,a1=some p->w.heap.size<=p.block)/\(∀p,a2=some p->w.heap.size<=p.block)/\al.length<=c1/\nb<=c2/\OS w w')\/
 (e=Zr #[.agg #[Zb 0,Zs,Zs],Zl false]/\(∀kind al nb bs,¬fv l kind al nb bs)/\OS w w')
theorem nF{F:Fence}{rest:List Oper}(P:O.guard=none)(z:O.op=.call {callee:=.builtin .append,args:=#[T,M],argTypes:=#[224,224]})(e:bB u k (X.eval T) L)(G:X.eval M=(u,1,1))(S:L.length<=1000000)(j:k<=u)(y:∀d h b,bB b k (.slice (some d) (L.length+1) h) (L++[t])->Below k u b->k<=d.block->wpListIn F g prog Q U rest (X.put O.dst (.slice (some d) (L.length+1) h)) b):
 wpListIn F g prog Q U (O::rest) X (u.alloc (.cells #[t] 3)):=by
 have⟨B,I,C,m,N⟩:=info_parts Tryz.info3;refine wpListIn_append_own _ P T M 224 z k 3 B (Zb 0) 1 8 Tryz.underlying224 I C m N rfl (by decide) (X.eval T) L.length (L.map (Value.int .i64)) rfl (World.ownsRow.alloc e _) ⟨u,0,none⟩ 1 1 [Zb t] G (by simp) ?_ ?_ (by unfold maxLen;omega) (by omega) (by simp;omega) ?_
 ·intro E o c
  match E,c with
  |0,c=>simp at c;subst c;simp[Addr.add]
 ·intro o i;simp at i;subst i;rfl
 ·intro r b f p _;have J:Below k u b:=((ce k u).alloc j _).grown p (by simp;omega) (λH D=>(World.ownsRow.lt e H D).1);have s:bB b k r (L++[t]):=by
   unfold bB;rw[OC,le];exact f
  rcases f.2 with ⟨_,q⟩|⟨R,V,Z,rfl,K,_⟩
  ·simp at q
  ·exact y _ _ b s J K
theorem Bytes.drop{w:W_}{b c d:Nat}{l:List Int}(h:Bytes w (some ⟨b,c,none⟩) d l)(A:Nat):Bytes w (some ⟨b,c+A,none⟩) (d-A) (l.drop A):=by
 have⟨h1,h2,f,j⟩:=h;refine⟨by rw[ge,h1],by omega,λx e=>f x (In e),λk=>⟨b,c+A,rfl,λi o=>?_⟩⟩;have⟨p,m,g,hc⟩:=j (by omega);cases g
 rw[tk,Nat.add_assoc];exact hc (A+i) (by omega)
theorem xo(H:Bytes u (some ⟨b,g,none⟩) k L)(h2:2≤k)(be:k≤2000)(bM:k<m):
 C_ Tryz.prog 220 #[.slice (some ⟨b,g,none⟩) k m] u λD R=>uX u R L D:=by
 have F:=Y H.1;have⟨b',ay,c0,aj,a0,aB,ap,aO⟩:=H.at_ 0 (by omega);cases aj
 have⟨b',ay,c1,aj,bo,au,bp,a4⟩:=H.at_ 1 (by omega);cases aj
 have aw:=TX u _ ap;simp only[wn] at ap aw;have HB:=Y H;have H0:=Y aB;have H1:=Y au;clear H aB au aO a4;have bN:(0:Int)<k:=by omega
 have bD:(1:Int)<k:=by omega
 have bm:(2:Int)≤k:=by omega
 have bf:(k:Int)<m:=by omega
 have bl:2<m:=by omega
 have bz:¬m=2:=by omega
 by_cases bP:(12:Int)<(c0:Int)%16∨(32:Int)<c1
 ·have O:=Y (show ∀kind al nb bs,¬fv L kind al nb bs by
   intro kind al nb bs E;have bF:=eu E.1;have e0:L.getD 0 0=16*kind+(al.length:Int):=by rw[←E.2.2.2];rfl
   have e1:L.getD 1 0=(nb:Int):=by rw[←E.2.2.2];rfl
   rw[H0.o] at e0;rw[H1.o] at e1;omega)
  have aV:∀W:W_,OS u W→uX u W L (.returned (.tuple #[.agg #[.int .i64 0,.slice none 0 0,.slice none 0 0],.bool false])):=λW hW=>.inr ⟨rfl,O.o,hW⟩
  by_cases aR:(12:Int)<(c0:Int)%16;all_goals
   refine(callsIn_wide (n:=6)).1 ?_;refine callsIn_of_wp_marks Tryz.func220 rfl trivial ?_ rfl;simp only[Tryz.ntmps220,EQ,fd,ut,Nat.reduceAdd,Nat.reduceSub,ww,AC,LE,fI,pp,i6];first|(have ba:(32:Int)<c1:=by omega)|skip
   gi_wp2
   gi_region
   gi_wp2
   refine⟨.tuple #[.agg #[.int .i64 0,.slice none 0 0,.slice none 0 0],.bool false],by simp[results,Tryz.results220,go_sem],aV _ ?_⟩;exact(((ce _ _).alloc (OJ _) _).alloc (by simp) _).drew
 ·have aR:¬(12:Int)<(c0:Int)%16:=by omega
  have ba:¬(32:Int)<c1:=by omega
  refine(callsIn_wide (n:=6)).1 ?_;refine callsIn_of_wp_marks Tryz.func220 rfl trivial ?_ rfl;simp only[Tryz.ntmps220,EQ,fd,ut,Nat.reduceAdd,Nat.reduceSub,ww,AC,LE,fI,pp,i6];gi_wp2
  gi_region
  gi_wp2
  gi_loopw [7,8,9,36] (λK _ _ ag wr=>∃(A:Nat) (al:List Int) (Q:V_),(al.length:Int)≤(c0:Int)%16∧2≤A∧A≤k∧ag=.int .i64 (al.length:Int)∧K=.slice (some ⟨b,g+A,none⟩) (k-A) (m-A)∧Hid (gw L al A)∧Hid (bB wr (u.heap.size+2) Q al)∧Hid (fF u wr (.int .i64 ((c0:Int)/16)) Q (.slice none 0 0)))
   (λ_ _ _ ag _=>16-(intOf ag).toNat)
  case atStart=>exact⟨2,[],.slice none 0 0,by simp;omega,by omega,by omega,rfl,rfl,gw.start L (by rw[F.o];omega),bB.nil _ _,(fF.start u _).drew⟩
  case round=>
   obtain⟨A,al,Q,hk,bk,hA,rfl,rfl,Z,hO,e⟩:=hrel;have⟨f0,f1,f2,fz,g0,g1,g2,gz,s1,s2⟩:=e.o.facts;by_cases a8:(al.length:Int)<(c0:Int)%16
   ·gi_wp2_with fail
    refine⟨trivial,?_⟩;refine(callsIn_wide.2 (sO ((HB.o.drop A).later (e.o.2.2.1)))).mono ?_;rintro D w1 ⟨n,size,rfl,aW,rfl⟩;rcases aW with ⟨bt,ae,aX,az⟩|⟨rfl,rfl,aE⟩
    ·have HS:=Y (Z.o.step ae aX az)
     have an:size≤k-A:=by rw[ge,F.o] at ae;exact ae
     have bR:((size:Int)==0)=false:=by simp;omega
     clear ae az;gi_wp2_with (gi_at_builtin;refine nF rfl rfl hO.o (t:=(n:Int)) rfl ?c1 ?c2 ?_);case c1=>omega
     case c2=>omega
     intro I P R M s had;have ao:=Y (e.o.later s);have⟨bu,bQ,bI,bJ,bc,bV,bH,bO,bL,bA⟩:=ao.o.facts;have ak:=Y M;clear M s;have bG:(size:Int)≤(k:Int)-A:=by omega
     have bU:¬m-A=size:=by omega
     have bZ:size<m-A:=by omega
     gi_wp2_with fail;go_roundw
     case rel=>
      refine⟨A+size,al++[(n:Int)],.slice (some I) (al.length+1) P,by simp;omega,by omega,by omega,by simp,by rw[Nat.add_assoc,Nat.sub_sub,Nat.sub_sub],HS,?_,ao.o.nk _⟩;exact ownsRow_setCell_below ak.o (a:=⟨u.heap.size+1,1,none⟩) (by simp) (.slice (some I) (al.length+1) P)
     case measure=>simp[intOf];omega
    ·have O:=Y (Z.o.none (by rw[H0.o];exact a8) aE)
     clear aE;gi_wp2_with fail;have⟨r0,r1,r2⟩:=e.o.1.stored (.int .i64 0) (.slice none 0 0) (.slice none 0 0);exact⟨.tuple #[.agg #[.int .i64 0,.slice none 0 0,.slice none 0 0],.bool false],by simp[results,Tryz.results220,go_sem,r0,r1,r2],.inr ⟨rfl,O.o,fw e.o.2.2.1 (OJ _)⟩⟩
   ·have ah:(c0:Int)%16=(al.length:Int):=by omega
    have HD:=Y (Z.o.done (by rw[H0.o];exact ah));have a3:=Y ah;clear ah;by_cases aS:k-A=8*c1
    ·have a7:(((k-A:Nat):Int) !=(c1:Int)*8)=false:=by simp;omega
     have HG:=Y (Z.o.AA H0.o H1.o a0 a3.o (by omega) (by omega) (by rw[ge,F.o];exact aS) HB.o.2.2.1);gi_wp2_with fail;refine⟨trivial,?_⟩;refine(xT (g:=5) (u:=wr)).mono ?_;rintro D w1 ⟨rfl,rfl⟩;gi_wp2_with fail;have bw:u.heap.size+2≤wr.heap.size:=e.o.2.2.2;have aK:=Y (show ∀C,Q.ownBlock=some C→C<wr.heap.size+1 by
      intro C hg;have:=(World.ownsRow.lt hO.o C hg).2;omega)
     have hC:u.heap.size+2≤wr.heap.size+1:=by have:=e.o.2.2.2;omega
     refine yD (V:=.int .i64 ((c0:Int)/16)) (N:=Q) (L:=al) (g:=wr.heap.size) (k:=g+A) (c:=m-A) (m:=c1) (J:=L.drop A) rfl (by omega) (by omega) aw (by simp) (by simpa using hC) ?hBs ?hc ?h0 ?assign ?body ?done;case hBs=>rw[lw];rfl
     case hc=>
      intro aZ hj;have a9:=(HB.o.drop A).later (e.o.2.2.1.alloc (by omega) (.cells #[.slice (some ⟨b,g+A,none⟩) (8*c1) (m-A)] 26));have⟨b',ay,ha,d⟩:=a9.2.2.2 (by omega);cases ha
      exact d aZ (by omega)
     case h0=>
      refine⟨.slice none 0 0,e.o.later ((ce _ _).alloc (by omega) _),ja.nil _ _,World.ownsRow.alloc hO.o _,OJ _⟩
     case assign=>
      intro lp pre x W bT T hK;simp only[B8.jJ,sp,Do,Eq];gi_wp2
      have an:wr.heap.size+1≤W.heap.size:=by have⟨_,_,_,_,hs⟩:=T;simpa using hs
      exact hK _ _ ((KeepsOthers.alloc _ _).from _) ⟨(ce _ _).alloc (by omega) _,pi W _ _ (by omega)⟩ ((wj (u:=u) (by simpa using hC)).alloc _ T) ⟨W.heap.size,by simpa using an,UO W _,rfl⟩
     case body=>
      rintro lp pre x a' W ⟨v2,q,p,y,U⟩ ⟨Bx,bv,d,rfl⟩ bS;have⟨p0,p1,p2,pz,q0,q1,q2,qz,t1,t2⟩:=q.facts;have x0:=cD d 0;have x1:=cD d 1;have x2:=cD d 2;have x3:=cD d 3;have x4:=cD d 4;have x5:=cD d 5;have x6:=cD d 6;have x7:=cD d 7;have S:=Y q;have a5:=Y p;have aI:=Y y;have bW:wr.heap.size+1≤W.heap.size:=by simpa using U
      clear q p y d U;simp only[B8.jJ,sp,Do,Eq] at x0 x1 x2 x3 x4 x5 x6 x7 ⊢;gi_wp2_with (gi_at_builtin;refine nr rfl rfl a5.o (J:=x.list) rfl rfl rfl ?c1 ?c2 ?_);case c1=>omega
      case c2=>simp;omega
      intro I P R M s aC;have aq:Below (u.heap.size+2) W R:=s.mono hC;have ar:=Y (S.o.later aq);have⟨bb,bn,bd,bh,br,bK,bx,bC,bq,bg⟩:=ar.o.facts;have ak:=Y M;have aL:=Y (xx aI.o aK.o s);have af:=Y s;have aN:=Y aC;clear M s aq aC;gi_wp2
      refine⟨(aN.o.trans (KeepsOthers.setCell _ _ _)).from _,⟨(af.o.mono (by omega)).setCell (by simp) _,?_⟩,.slice (some I) (pre.length+1) P,ar.o.fq _,?_,ownsRow_setCell_below aL.o (by simp) _,?_⟩
      ·rw[jp _ _ _ _ (by show wr.heap.size≠u.heap.size+1;omega)]
       exact af.o.block wr.heap.size (by omega)
      ·have aM:u.heap.size+1<wr.heap.size+1:=by omega
       have aH:=ownsRow_setCell_below ak.o.2 (a:=⟨u.heap.size+1,2,none⟩) aM (.slice (some I) (pre.length+1) P);refine⟨by rw[mC],?_⟩;rw[dl,tu,OC];exact aH
      ·have:=af.o.size
       simp[World.setCell];omega
     case done=>
      intro G W hD T hK;have⟨v2,q,p,y,U⟩:=T;have bi:wr.heap.size+1≤G:=by simpa using hD
      rw[yd _ (by rw[ge,F.o];omega),qD,OL (by rw[ge,F.o];omega)] at p;obtain⟨i,h,rfl,av⟩:=y.ints;obtain⟨j,f,rfl,aD⟩:=p.Gq HG.o.2.2.1;have⟨p0,p1,p2,pz,q0,q1,q2,qz,t1,t2⟩:=q.facts;have ax:=Y y.Ab;have aA:=Y p.Ab;have aU:=Y y.cap;have aG:=Y p.cap;have S:=Y q;have aT:=Y av;have aJ:=Y aD;have HK:=Y hK;clear q p y av aD hK U;gi_wp2
      have aF:(((W.setCell ⟨u.heap.size,0,none⟩ (.int .i64 ((c0:Int)/16))).setCell ⟨u.heap.size,1,none⟩ (.slice i al.length h)).setCell ⟨u.heap.size,2,none⟩ (.slice j c1 f)).heap[G]?=some (.deferred (some [])):=by
       rw[lB W u.heap.size G (by omega)];exact HK.o
      have ab:=grownBy_putObj' (((W.setCell ⟨u.heap.size,0,none⟩ (.int .i64 ((c0:Int)/16))).setCell ⟨u.heap.size,1,none⟩ (.slice i al.length h)).setCell ⟨u.heap.size,2,none⟩ (.slice j c1 f)) G (.deferred none);have am:∀K,some G=some K→∃o:Obj,(((W.setCell ⟨u.heap.size,0,none⟩ (.int .i64 ((c0:Int)/16))).setCell ⟨u.heap.size,1,none⟩ (.slice i al.length h)).setCell ⟨u.heap.size,2,none⟩ (.slice j c1 f)).heap[K]?=some o∧o.isCells=false:=λK D=>by cases D;exact⟨_,aF,rfl⟩
      have ai:=bX (((S.o.1.xE (.int .i64 ((c0:Int)/16))).nk (.slice i al.length h)).fq (.slice j c1 f)) ab am;have hbl:=(fw (g:=u.heap.size) S.o.2.2.1 (OJ _) (V:=.int .i64 ((c0:Int)/16)) (u:=.slice i al.length h) (X:=.slice j c1 f)).grown ab (by have:=t1;simp[World.setCell];omega) (λaP D=>by cases D;omega);have a6:=(aT.o.stored u.heap.size (λr B=>by have:=ax.o r B;omega) (.int .i64 ((c0:Int)/16)) (.slice i al.length h) (.slice j c1 f)).grow ab am;have aQ:=(aJ.o.stored u.heap.size (λr B=>by have:=aA.o r B;simp at this;omega) (.int .i64 ((c0:Int)/16)) (.slice i al.length h) (.slice j c1 f)).grow ab am;refine⟨by simp,.inl ⟨_,_,rfl,run_takeDeferred aF,?_⟩⟩;generalize (((W.setCell ⟨u.heap.size,0,none⟩ (.int .i64 ((c0:Int)/16))).setCell ⟨u.heap.size,1,none⟩ (.slice i al.length h)).setCell ⟨u.heap.size,2,none⟩ (.slice j c1 f)).putObj G (.deferred none)=WF at*;have y0:=bE.cell0 ai;have y1:=bE.kN ai;have y2:=bE.kO ai;exact⟨.tuple #[.agg #[.int .i64 ((c0:Int)/16),.slice i al.length h,.slice j c1 f],.bool true],by simp[results,Tryz.results220,go_sem,y0,y1,y2],.inl ⟨_,al,c1,L.drop A,i,h,j,f,rfl,HG.o,a6,aQ,λr B=>by have:=ax.o r B;omega,λr B=>by have:=aA.o r B;simp at this;omega,aU.o,aG.o,hbl⟩⟩
    ·have a7:(((k-A:Nat):Int) !=(c1:Int)*8)=true:=by simp;omega
     have O:=Y (show ∀kind al nb bs,¬fv L kind al nb bs by
      intro kind bj nb bs E;have⟨_,e2,e3,_⟩:=HD.o _ _ _ _ E;have:=congrArg List.length e2;rw[ge,F.o,E.2.1] at this;rw[H1.o] at e3;omega)
     gi_wp2_with fail;have⟨r0,r1,r2⟩:=e.o.1.stored (.int .i64 0) (.slice none 0 0) (.slice none 0 0);exact⟨.tuple #[.agg #[.int .i64 0,.slice none 0 0,.slice none 0 0],.bool false],by simp[results,Tryz.results220,go_sem,r0,r1,r2],.inr ⟨rfl,O.o,fw e.o.2.2.1 (OJ _)⟩⟩
end
section
open Go.RowKit
theorem Bytes.cut(h:Bytes u (some ⟨b,g,none⟩) k L)(A:Nat)(m:A<=k):Bytes u (some ⟨b,g,none⟩) A (L.take A):=by
 have⟨h1,h2,e,j⟩:=h;refine⟨by rw[OM,h1];omega,by omega,λx c=>e x (f9 c),λo=>⟨b,g,rfl,λi d=>?_⟩⟩;have⟨p,q,f,hc⟩:=j (by omega);cases f
 rw[hc i (by omega)];simp[List.getD_eq_getElem?_getD,d]
theorem dM(t:Bytes u q g L)(aO:g<=2000)(aG:g<=k):
 C_ prog 192 #[(q,g,k)] u λH w'=>Aa u w' L H Zn (Zf 3):=by
 have K:=Y t.1;by_cases h6:(g:Int)<6
 ·have s:=Y (Az (l:=L) (by rw[K];omega));clear t;go_enter func192,ntmps192;go_wp2;refine UM (by simp[results,results192,go_sem]) rfl (.inr ⟨rfl,s,af⟩)
 ·obtain⟨b,rfl⟩:∃b,g=b+4:=⟨g-4,by omega⟩;obtain⟨aq,ar,c0,rfl,aN,ap,M,an⟩:=t.at_ 0 (by omega);have aC:=TX u _ M;simp only[wn] at M aC;have P:=Y t;clear t ap an M;have aK:(b:Int)+4<=k:=by omega
  have aH:b<k:=by omega
  have aL:¬k=b:=by omega
  go_enter func192,ntmps192;go_wp2;go_quiet (fail);go_wp2_with fail;obtain⟨r,ax,ad,Q,aM⟩:∃r:W_,Hid (r=(u.alloc (.cells #[Zi,Zs,Zs] 308)).drewN nq)/\Hid (bE r u (Zb 0) Zs Zs)/\Hid (OS u r)/\r=u.heap.size+1:=
   ⟨_,rfl,bE.new u _ _ _,below_drewN (af) nq,by simp⟩
  rw[<-ax];have G:=Y (show L.take b=L.take (L.length-4) by rw[K];simp);have Z:=Y (show L.drop b=L.drop (L.length-4) by rw[K];simp);refine(xo (m:=k) ((P.cut b (by omega)).later Q) (by omega) (by omega) (by omega)).mono ?_;rintro H j (⟨kind,al,nb,bs,F,c1,E,c2,rfl,X,hi,ah,ak,ae,ao,aB,d⟩|⟨rfl,ai,d⟩)
  ·have aE:=Y X;have HI:=Y hi;have HK:=Y ah;have U:=Y ak;have aj:=Y ae;have av:=d.size;have f:=Y (ad.later d (by omega));have i:=Y (Q.trans (d.mono (by omega)));clear X hi ah d ak ae;go_wp2_with fail;refine(xp (k:=aq) (m:=ar+b) (c:=k-b) (L:=L.drop b) ?_).mono ?_
   ·have hx:=(P.drop b).later (i.alloc (by omega) (.cells #[Zb kind,(F,al.length,c1),(E,nb,c2)] 308));rw[show b+4-b=4 by omega] at hx;exact hx
   rintro H w2 ⟨rfl,J⟩;have au:=J.size;rw[dl] at au;have ab:=Y ((ce j j).alloc (OJ _) (.cells #[Zb kind,(F,al.length,c1),(E,nb,c2)] 308)|>.trans (J.mono (by simp)));have am:=Y (bE.later (bE.new j (Zb kind) (F,al.length,c1) (E,nb,c2)) J (by simp));clear J;have⟨ag,hX⟩:=ZX (((L.drop b).map (Value.int .u8)).toArray);rw[<-hX];go_wp2_with fail;refine(rV k ((P.cut b (by omega)).later (i.trans (ab.mono (by omega))))).mono ?_;rintro H w3 ⟨rfl,I⟩;have D:=Y (ab.trans (I.mono (by omega)));have R:=Y (am.later I (by omega));have aJ:=I.size;clear I;have⟨az,S⟩:=ZX (((eJ (crc (L.take b))).map (Value.int .u8)).toArray);rw[<-S];have T:∀W:W_,Sem.run prog (Op.equalIn 10000 346 (.agg ag) (.agg az)) W=.ok (decide (L.drop b=eJ (crc (L.take b)))) W:=by
    intro W;have⟨i0,aA,_⟩:=info_parts Tryz.info5;rw[hX,S];exact lf W 346 5 4 i0 Tryz.underlying346 Tryz.underlying5 aA Tryz.cellsOf5 _ _ (by rw[ge,K];omega) rfl
   have o:=Y (f.later D (by omega));have e0:=R.cell0;have e1:=R.kN;have e2:=R.kO;have g0:=o.cell0;have g1:=o.kN;have g2:=o.kO;have gz:=o.frozen;have aw:u<w3.heap.size:=by omega
   by_cases h:L.drop b=eJ (crc (L.take b))
   ·have aF:Hid (aI L kind al nb bs):=fv.frame (by rw[<-G];exact aE) (by rw[<-Z,<-G];exact h);rw[UR h] at T;clear h;go_wp2;have⟨y,z,C⟩:=o.stored (Zb kind) (F,al.length,c1) (E,nb,c2);refine UM (by simp[results,results192,go_sem,y,z,C]) rfl (.inl ⟨kind,al,nb,bs,F,c1,E,c2,rfl,aF,?_,?_,λp e=>by have:=U p e;omega,λp e=>by have:=aj p e;omega,ao,aB,fw (i.trans (D.mono (by omega))) (OJ _)⟩)
    ·exact aD.stored (HI.later D) _ (λp e=>by have:=U p e;omega) _ _ _
    ·exact bm.stored (HK.later D) _ (λp e=>by have:=aj p e;omega) _ _ _
   ·have s:=Y (show ∀kind al nb bs,¬aI L kind al nb bs by
     intro k' l' n' s' O;have:=O.body.2;rw[<-Z,<-G] at this;exact h this)
    rw[UQ h] at T;clear h;go_wp2;have⟨y,z,C⟩:=o.stored (Zb 0) Zs Zs;exact UM (by simp[results,results192,go_sem,y,z,C]) rfl (.inr ⟨rfl,s,fw (i.trans (D.mono (by omega))) (OJ _)⟩)
  ·have s:=Y (show ∀kind al nb bs,¬aI L kind al nb bs by
    intro k' l' n' s' O;have:=O.body.1;rw[<-G] at this;exact ai _ _ _ _ this)
   have av:=d.size;have f:=Y (ad.later d (by omega));have i:=Y (Q.trans (d.mono (by omega)));have g0:=f.cell0;have g1:=f.kN;have g2:=f.kO;have gz:=f.frozen;have aw:u<j.heap.size:=by omega
   clear ai d;go_wp2;have ay:=fw (g:=u) i (OJ _) (V:=Zb 0) (u:=Zs) (X:=Zs);have N:=bE.later (((f.xE (Zb 0)).nk Zs).fq Zs) (B:=j) ((ce j _).alloc (by simp[World.setCell]) (.cells #[Zi,Zs,Zs] 308)) (by omega);have y:=N.cell0;have z:=N.kN;have C:=N.kO;exact UM (by simp[results,results192,go_sem,y,z,C]) rfl (.inr ⟨rfl,s,ay.alloc (by simp[World.setCell];omega) _⟩)
theorem Cs(b:Bytes u q g L)(f:g<=2000)(c:g<=k):
 C_ prog 192 #[(q,g,k)] u λe d=>Told u d L e Zn (Zf 3):=
 (dM b f c).mono λ_ _ h=>h.told
end
section
open Go.RowKit
theorem NX:aD u none 0 []:=⟨rfl,by unfold maxLen;omega,λh=>absurd h (by omega)⟩
theorem ir(w:W_):bm w none 0 []:=⟨rfl,by unfold maxLen;omega,by simp,λh=>absurd h (by omega)⟩
end
section
open Go.RowKit
variable {w:W_}{a:Option A_}{n base:Nat}{l:List Nat}
namespace Mx
def bytesOf(x:B8):List Int:=[x.z0,x.z1,x.z2,x.z3,x.z4,x.z5,x.z6,x.z7]
def bR(x:B8):Nat:=fX (0::bytesOf x)
def be8(d:Nat):List Int:=(List.range 8).map λj=>((d/256^(7-j)%256:Nat):Int)
def dp(l:List Nat):Nat:=fX (1::l.flatMap be8)
def cw(l:List Nat):List Nat:=(List.range ((l.length+3)/4)).map λi=>dp ((l.drop (i*4)).take 4)
def fe:Nat→List Nat→List (List Nat)
 | 0, l => [l]
 | f + 1, l => if l.length ≤ 1 then [l] else l :: fe f (cw l)
def levels (l:List Nat):List (List Nat):=fe l.length l
theorem oy(l:List Nat):(cw l).length=(l.length+3)/4:=by simp[cw]
theorem Ix(l:List Nat):dp l<18446744073709551616:=tg _
theorem kM(x:B8):bR x<18446744073709551616:=tg _
theorem qb(l:List Nat):∀x∈cw l,x<18446744073709551616:=by
 intro x b;obtain⟨i,_,rfl⟩:=m8.1 b;exact Ix _
theorem lK(d:Nat):(be8 d).length=8:=by simp[be8]
theorem Gm(d:Nat):∀z∈be8 d,0<=z/\z<=255:=by
 intro z b;obtain⟨j,_,rfl⟩:=m8.1 b;omega
theorem tt(l:List Nat):∀z∈l.flatMap be8,0<=z/\z<=255:=by
 intro z b;have⟨d,_,b⟩:=If.1 b;exact Gm d z b
theorem mC(l:List Nat):(l.flatMap be8).length=l.length*8:=by
 induction l with
 |nil=>rfl
 |cons x l b=>rw[Id,OC,b,lK,fd,Uv];omega
end Mx
def B8.ok(x:B8):Prop:=∀z∈bytesOf x,0<=z/\z<=255
def dF(w:W_)(a:Option A_)(len:Nat)(l:List Nat):Prop:=
 l.length=len/\len<=maxLen/\(∀x∈l,x<18446744073709551616)/\(0<len->∃b off,a=some ⟨b,off,none⟩/\b<w.heap.size/\∀i,i<len->w.cell? ⟨b,off+i,none⟩=some (.int .u64 ((l.getD i 0:Nat):Int)))
def cq(w:W_)(base:Nat)(v:V_)(l:List Nat):Prop:=w.ownsRow base 83 1 v l.length (l.map λx:Nat=>Value.int .u64 (x:Int))
theorem Tryz.info83:(prog.info? 83).map (λi=>(i.zero,i.size,i.bytes))=some (some (.int .u64 0),1,8):=by kernel_rfl
theorem dF.later{w':W_}(j:dF w a n l)(c:OS w w'):dF w' a n l:=by
 have⟨h1,h2,h,m⟩:=j;refine⟨h1,h2,h,λf=>?_⟩;have⟨b,d,k,e,hc⟩:=m f;exact⟨b,d,k,by have:=c.size;omega,λi g=>(c.cell (p:=(b,d+i)) e).trans (hc i g)⟩
theorem dF.at_(h:dF w a n l)(k:Nat)(j:k<n):
 ∃b c,∃x:Nat,a=some ⟨b,c,none⟩/\b<w/\l[k]?=x/\(x:Int)<18446744073709551616/\w.cell? ⟨b,c+k,none⟩=some (.int .u64 (x:Int)):=by
 have⟨h1,h2,f,i⟩:=h;have⟨b,c,g,e,hc⟩:=i (by omega);have d:l[k]?=l[k]:=Ox (by omega);have m:=f l[k] (TJ _);refine⟨b,c,l[k],g,e,d,by omega,?_⟩;rw[hc k j,Oy,d];rfl
theorem dF.cut(h:dF w (some ⟨b,g,none⟩) n l)(i m:Nat)(q:i+m<=n):dF w (some ⟨b,g+i,none⟩) m ((l.drop i).take m):=by
 have⟨h1,h2,e,j⟩:=h;refine⟨by rw[OM,ge];omega,by omega,λx d=>e x (In (f9 d)),λp=>?_⟩;have⟨r,s,f,c,hc⟩:=j (by omega);cases f
 refine⟨b,g+i,rfl,c,λk o=>?_⟩;have:=hc (i+k) (by omega);rw[<-Nat.add_assoc] at this;rw[this];congr 3;rw[Oy,Oy,ul o,Tt]
theorem cq.nil(w:W_)(base:Nat):cq w base Zs []:=t8 w base 83 1
theorem cq.read(h:cq w base (a,n,g) l)(c:∀x∈l,x<18446744073709551616):dF w a n l/\n<=g:=by
 rcases h.2 with ⟨b,j⟩|⟨k,u,o,b,s,d,p,q,t,m⟩
 ·simp only[Value.slice.injEq] at b;obtain⟨rfl,rfl,rfl⟩:=b;exact⟨⟨j,by unfold maxLen;omega,c,λh=>absurd h (by omega)⟩,OJ _⟩
 ·simp only[Value.slice.injEq] at b;obtain⟨rfl,rfl,rfl⟩:=b;refine⟨⟨rfl,by omega,c,λr=>⟨k,0,rfl,(co.1 d).1,λi e=>?_⟩⟩,p⟩;rw[cD d,m9,<-GE];have f:(o.toList.take (l.length*1))[i]?=(l.map λx:Nat=>Value.int .u64 (x:Int))[i]?:=by rw[m]
  rw[ul (by omega)] at f;rw[f,i8,Ox e,Oy,Ox e];rfl
theorem cq.form(h:cq w base V l):∃a c,V=.slice a l.length c:=by
 rcases h.2 with ⟨b,d⟩|⟨g,e,f,b,_⟩
 ·exact⟨none,0,by rw[b,d]⟩
 ·exact⟨_,_,b⟩
theorem jM{rest:List Oper}(u:O.guard=none)(g:O.op=.call {callee:=.builtin .append,args:=#[T,M],argTypes:=#[84,84]})(base:Nat)(l:List Nat)(f:cq w base (X.eval T) l)(z:Nat)(q:X.eval M=(w,1,1))(D:l.length<=1000000)(y:base<=w)(h:∀d c,cq c base d (l++[z])->w.grownBy c (X.eval T).ownBlock->wpList prog Q U rest (X.put O.dst d) c):
 wpList prog Q U (O::rest) X (w.alloc (.cells #[.int .u64 (z:Int)] 83)):=by
 have⟨i,s,j,e,t⟩:=info_parts Tryz.info83;refine UN _ u T M 84 g base 83 i _ 1 8 Tryz.underlying84 s j e t rfl (by decide) (X.eval T) l.length (l.map λM:Nat=>Value.int .u64 (M:Int)) rfl (World.ownsRow.alloc f _) ⟨w,0,none⟩ 1 1 [.int .u64 (z:Int)] q rfl (λC B p=>?_) (by simp[Value.oneCell']) (by unfold maxLen;omega) (by omega) (by simp;omega) ?_
 ·rw[GT,lw];simpa using p
 ·intro d c r b _;refine h d c ?_ ⟨b.os,b.tape,b.output,by have:=b.size;simp at this;omega,λk m o=>(b.block k (by simp;omega) o).trans (pi w _ k m)⟩;unfold cq;rw[OC,le];exact r
theorem yr(x:B8)(o:x.ok):
 C_ prog 72 #[x] u λe c=>e=Zv (.int .u64 (bR x:Int))/\OS u c:=by
 have i:=Y o;go_enter func72,ntmps72;go_wp2_with (at_builtin;refine aE rfl rfl (g:=u+1) (l:=[0]) ?c0 (Q:=⟨u,0,none⟩) (m:=8) 8 (L:=bytesOf x) ?c1 rfl ?c2 ?c3 ?c4 ?_);case c0=>
  have h:=TS (base:=u+1) (e:=5) (size:=1) (u.alloc (.cells x 65)) #[Zu] 1 (by simp) (by unfold maxLen;omega) rfl;rw[dl] at h;exact h
 case c1=>rfl
 case c2=>
  intro t q k;rw[GT,TE _ _ _ (by simp),lw,m9];simpa[bytesOf] using k
 case c3=>simp
 case c4=>simp
 intro s c b p;obtain⟨g,y,rfl,_,_⟩:=kV b (by simp);have j:=Y (kU b (by
  intro z d;rcases ro.1 d with h|h
  ·omega
  ·exact i z h))
 have f:=Y (((af (v:=u) (P:=.cells x 65)).alloc (by simp) (.cells #[Zu] 5)).trans (p.mono (by omega)));go_wp2_with fail;refine(qV j).mono ?_;rintro e r ⟨rfl,rfl⟩;go_wp2;go_ret;exact⟨rfl,f⟩
end
section
variable {l bs:List Int}{kind:Int}
namespace Mx
theorem nE(x:Nat)(h:x<2147483648):2147483648<=x^^^jI:=by
 rcases Uk (x^^^jI) 2147483648 with b|hge
 ·exfalso;have e:(x^^^jI)^^^x=jI:=by rw[Nat.xor_comm x jI,Nat.xor_assoc,Nat.xor_self,Nat.xor_zero]
  have:=Nat.xor_lt_two_pow (n:=31) b h;rw[e] at this;unfold jI at this;omega
 ·exact hge
theorem ny(a b c:Nat)(h:a^^^c=b^^^c):a=b:=by
 have e:∀x:Nat,(x^^^c)^^^c=x:=λx=>by rw[Nat.xor_assoc,Nat.xor_self,Nat.xor_zero]
 rw[<-e a,<-e b,h]
theorem AI(x y:Nat)(c:x<4294967296)(b:y<4294967296)(h:gY x=gY y):x=y:=by
 unfold gY at h;have h1:=nE (x/2) (by omega);have h2:=nE (y/2) (by omega);split at h<;>split at h
 ·have:=ny _ _ _ h;omega
 ·omega
 ·omega
 ·omega
theorem ph(k x y:Nat)(c:x<4294967296)(b:y<4294967296)(h:eO x k=eO y k):x=y:=by
 induction k with
 |zero=>exact h
 |succ k d=>exact d (AI _ _ (rr x k c) (rr y k b) h)
theorem yG(x y c:Nat)(hc:c<256)(d:x<4294967296)(b:y<4294967296)(h:ef x c 8=ef y c 8):x=y:=by
 rw[<-fY x c hc,<-fY y c hc] at h;exact ny x y c (ph 8 _ _ (jz _ _ d (by omega)) (jz _ _ b (by omega)) h)
theorem xq(x c d:Nat)(hc:c<256)(hd:d<256)(b:x<4294967296)(h:ef x c 8=ef x d 8):c=d:=by
 rw[<-fY x c hc,<-fY x d hd] at h;have:=ph 8 _ _ (jz _ _ b (by omega)) (jz _ _ b (by omega)) h;rw[Nat.xor_comm x c,Nat.xor_comm x d] at this;exact ny c d x this
theorem La(l:List Int)(x y:Nat)(e:∀c∈l,0<=c/\c<=255)(b:x<4294967296)(d:y<4294967296)(h:reg x l=reg y l):x=y:=by
 induction l generalizing x y with
 |nil=>exact h
 |cons c l g=>
  have hc:=e c (by simp);exact yG x y c.toNat (by omega) b d (g _ _ (λf hd=>e f (by simp[hd])) (iU _ _ _ b) (iU _ _ _ d) h)
theorem GL(b c:List Int)(d e:Int)(hc:0<=d/\d<=255)(hd:0<=e/\e<=255)(h:∀x∈c,0<=x/\x<=255)(i:crc (b++d::c)=crc (b++e::c)):d=e:=by
 unfold crc at i;have h1:=xr 4294967295 (b++d::c) (by omega);have h2:=xr 4294967295 (b++e::c) (by omega);have g:reg 4294967295 (b++d::c)=reg 4294967295 (b++e::c):=by omega
 rw[rP,rP] at g;have f:=xr 4294967295 b (by omega);have j:ef (reg 4294967295 b) d.toNat 8=ef (reg 4294967295 b) e.toNat 8:=La c _ _ h (iU _ _ _ f) (iU _ _ _ f) g;have:=xq _ _ _ (by omega) (by omega) f j;omega
theorem FH(a b:Nat)(h:eJ a=eJ b):a=b:=by
 unfold eJ at h;simp only[List.cons.injEq,US] at h;omega
theorem aI.eE(y:aI l kind L g bs)(o:∀x∈l,0<=x/\x<=255)(r:Nat)(c:r<l.length)(z:Int)(s:0<=z/\z<=255)(j:l.getD r 0≠z):
 ∀e p m f,¬aI (l.set r z) e p m f:=by
 intro e p m f u;have h:=y.body.2;have b:=u.body.2;rw[t9] at b;rcases Uk r (l.length-4) with q|hge
 ·rw[List.drop_set_of_lt q,h] at b;have d:=FH _ _ b;have i:r<(l.take (l.length-4)).length:=by rw[OM];omega
  have t:l.take (l.length-4)=(l.take (l.length-4)).take r++l.getD r 0::(l.take (l.length-4)).drop (r+1):=by
   conv=>lhs;rw[<-qr r (l.take (l.length-4)),Fn i]
   simp[List.getD_eq_getElem?_getD,c]
  have B:(l.set r z).take (l.length-4)=(l.take (l.length-4)).take r++z::(l.take (l.length-4)).drop (r+1):=by
   rw[List.take_set,List.set_eq_take_append_cons_drop,UY i]
  rw[t,B] at d;have E:=o (l.getD r 0) (pQ c);exact j (GL _ _ _ _ E s (λx D=>o x (f9 (In D))) d)
 ·rw[List.take_set_of_le hge,<-h] at b;have:=congrArg (λ(C:List Int)=>C.getD (r-(l.length-4)) 0) b;simp only[tk,show l.length-4+(r-(l.length-4))=r by omega] at this;rw[Oy,List.getElem?_set,UY rfl,UY c] at this;simp only[Tw] at this;exact j this.symm
end Mx
theorem Bm(h2:bm u q g bs)(b:may kind l g=0):(bF kind l g bs).length<=2000:=by
 have⟨_,_,d,e,_⟩:=eu b;have h1:=mP l;have c:=h2.1;rw[bF,OC,jx];simp[dW];omega
end
section
open Go.RowKit Go.Shelf
attribute [local go_sem] Oper.semAt_some
def Cv{α:Type}(n:Nat)(gf:Nat)(lb:Array V_)(enc:α->V_)(Bs:Nat)(xs:List α)(w:W_):Prop:=
 ∀(l:Nat) (J:List α->W_->Prop) (W:W_),OS w W->AbidesFrom W J->(∀s V v,J s V->J s (V.setCell ⟨Bs,0,none⟩ v))->
  (∀pre x V,J pre V->pre.length<xs.length->YieldAt Fence.wide (n-1) Tryz.prog l #[enc x] V λe V'=>e=Zv (Zl true)/\J (pre++[x]) V'/\V'.heap[Bs]?=V.heap[Bs]?)->
  J [] W->CallsIn Fence.wide n Tryz.prog gf (#[.func (.yield l) #[] #[]]++lb) W λe W'=>(∃v,e=Zv v)/\J xs W'
theorem MT{α:Type}{n:Nat}{p:Tmp}{assign body:Code}(h1:1<=n){gf Bs:Nat}{lb:Array V_}(hg:X.eval T=.func (.func gf) #[] lb)(eg:∀args u,(callFunc gf args).run prog u=.ok (.enter gf args) u){z:α->V_}{xs:List α}(ab:Cv (n-1) gf lb z Bs xs u)(hBs:Bs<u)(I:List α->W_->Prop)(h:OwnFrom u I)(ae:∀s V v,I s V->I s (V.setCell Bs v))(h0:I [] u)(L:α->Act)(Y:∀(l:Nat) (x:α) (W:W_) (M:Act->W_->Prop),M (L x) W->assign.wpIn (Fence.wide.inRound l) (n-1-1) prog (Exit.then M (λ_ _ _=>False)) {tmps:=(#[p].zip #[z x]).foldl (λt (p,v)=>t.setIfInBounds p v) X.tmps,defers:=[]} W)(ad:∀(l:Nat) (f:List α) (x:α) (W:W_),I f W->f.length<xs.length->body.wpIn (Fence.wide.inRound l) (n-1-1) prog (Exit.then (λ_ y=>KeepsFrom u W y/\y.heap[Bs]?=W.heap[Bs]?/\I (f++[x]) y) (λ_ _ _=>False)) (L x) W)(am:∀(D:Nat) (W:W_),u<=D->I xs W->W.heap[D]?=some (.deferred (some []))->U .normal {X with defers:={target:=.collected D,args:=#[]}::X.defers} W):
 (Code.rangeFunc T #[p] assign body).wpIn Fence.wide n prog U X u:=by
 apply wpIn_rangeFunc;intro fn ai;obtain⟨R,d⟩:∃R:LoopState->Option Code->Loop,R=λst pe=>{state:=st,pending:=pe,fn,tmps:=X.tmps,params:=#[p],assign,body,defers:=u}:=⟨_,rfl⟩
 obtain⟨N,K⟩:∃N,N=u.heap.size+1:=⟨_,rfl⟩;have e0:(u.alloc (.deferred (some []))).heap.size=N:=by rw[K];simp
 obtain⟨b,i⟩:∃b,(u.alloc (.deferred (some []))).alloc (.loop (R .ready none))=b:=⟨_,rfl⟩;have J:b.heap[N]?=some (.loop (R .ready none)):=by rw[<-i,<-e0];exact World.alloc_heap_new _ _
 have hD:b.heap[u.heap.size]?=some (.deferred (some [])):=by rw[<-i];exact(pi _ _ _ (by simp)).trans (World.alloc_heap_new u _)
 have H:OS u b:=by rw[<-i];exact((ce _ u).alloc (OJ _) _).alloc (by simp) _
 refine⟨N,[{target:=.collected u,args:=#[]}],b,{target:=.fn (.func gf) lb,args:=#[.func (.yield N) #[] #[]]},b,gf,#[.func (.yield N) #[] #[]]++lb,b,?_,?_,?_,?_,λ_=>h1,?_⟩
 ·rw[<-i,d,K];exact run_enterLoop_outer _ _ _ _ _
 ·simp only[resolve,hg];simp[go_sem]
 ·intro ao hf;trivial
 ·simp[invoke,go_sem,eg]
 ·have S:∀{A B:W_} {q:Option Nat} {E:Nat} {o:Obj},A.grownBy B q->(∀r,q=some r->b<=r/\∃o:Obj,A.heap[r]?=o/\o.isWalk=true)->E<=N->A.heap[E]?=o->B.heap[E]?=o:=λj c m k=>
   (j.block _ (co.1 k).1 (λe=>by
     have h5:=(c _ e.symm).1;have h6:=(co.1 J).1;omega)).trans k
  refine(ab N (λf V=>I f V/\V.heap[N]?=some (.loop (R .ready none))/\V.heap[u.heap.size]?=some (.deferred (some []))) b H
   (λs A B q hs j c=>⟨h s A B q hs.1 j (λr e=>⟨by have:=(c r e).1;have:=H.size;omega,by have⟨_,o,k,hw⟩:=c r e;exact⟨o,k,Obj.not_cells_of_walk hw⟩⟩),S j c (OJ _) hs.2.1,S j c (by omega) hs.2.2⟩)
   (λs V v hs=>⟨ae s V v hs.1,(jp _ _ _ _ (λe=>by have:N=Bs:=e;omega)).trans hs.2.1,(jp _ _ _ _ (λe=>by have:u=Bs:=e;omega)).trans hs.2.2⟩)
   ?_ ⟨by rw[<-i];exact h.alloc _ (h.alloc _ h0),J,hD⟩).mono ?_
  ·rintro f x V ⟨F,g,m⟩ an;have aj:N<V:=(co.1 g).1;have Q:=run_yield (P:=prog) (args:=#[z x]) g (by rw[d];rfl);rw[d] at Q;refine⟨fn,_,assign,body,Q,roundIn_of_wpIn ai (Y _ x V _ ?_)⟩;refine⟨_,run_beginRound g (by rw[d]),?_⟩;have ah:(V.putObj N (.loop {R .ready none with state:=.busy})).heap[N]?=some (.loop {R .ready none with state:=.busy}):=World.putObj_heap_same aj;apply wpIn_mono (ad _ f x _ (h.putObj _ F (by omega) g rfl) an);rintro e a3 W3 G;cases e with
   |normal=>
    have⟨O,af,ag⟩:=G;have C:=O.same _ _ (by omega) ah rfl;have c:=run_endRound (P:=prog) none C;have ak:=O.same _ _ (OJ _) ((World.putObj_heap_other (by omega)).trans m) rfl;refine⟨_,_,c,rfl,⟨h.putObj _ ag (by omega) C rfl,?_,(World.putObj_heap_other (by omega)).trans ak⟩,?_⟩
    ·rw[World.putObj_heap_same (co.1 C).1,d];rfl
    ·exact(World.putObj_heap_other (by omega)).trans (af.trans (World.putObj_heap_other (by omega)))
   |_=>exact G.elim
  ·rintro e W2 ⟨⟨v,rfl⟩,F,g,m⟩;exact⟨none,_,by have Z:=run_endLoop (P:=prog) g (by rw[d];simp);rw[d] at Z;exact Z,am _ _ (OJ _) (h.putObj _ F (by omega) g rfl) ((World.putObj_heap_other (by omega)).trans m)⟩
