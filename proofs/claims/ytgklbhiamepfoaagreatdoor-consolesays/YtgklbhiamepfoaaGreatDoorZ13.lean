import Derived.Deep.AppendLies
import Derived.Test.YtgklbhiamepfoaaGreatDoorZ12
set_option maxHeartbeats 16000000
set_option maxRecDepth 100000
namespace Go.Proofs.YtgklbhiamepfoaaGreatDoor
open Go renaming World->W_,Value->V_,Calls->C_,Addr->A_
open Go.RowKit renaming Hid->H_
open Go.Proofs.Tryz Mx
variable {Z:Bu}{m c i h:Nat}{X:List Pt}{W r:List Ep}{v z:W_}{x y t:Int}{q p b:Option A_}{V o:Pt}{u R Q O:V_}{l:List Int}{U:List (List B8)}{M e:List B8}{T f:Bool}{N:TypeId}{L:List Fr}{K:Nat->Prop}{J:Array V_}{I:List V_}{d:B8}{H:Obj}{G:Array Oper}{F:Exit->Act->W_->Prop}{E:W_->Prop}{D:Oper}{C:Array Bool}{A:Act}{s:Ep}
open Go.RowKit
section
variable {S P:Nat→Prop}{w w':W_}{n k:Nat}{a:Option A_}
structure Ext (S:Nat->Prop) (w w':W_):Prop where
 size:w.heap.size<=w'.heap.size
 block:∀b,b<w.heap.size->¬S b->w'.heap[b]?=w.heap[b]?
theorem Ext.refl(S:Nat->Prop)(w:W_):Ext S w w:=⟨OJ _,λ_ _ _=>rfl⟩
theorem Ext.trans{S:Nat->Prop}{w w' e:W_}(h:Ext S w w')(d:Ext S w' e):Ext S w e:=
 ⟨OP h.size d.size,λc b hs=>(d.block c (OE b h.size) hs).trans (h.block c b hs)⟩
theorem Ext.mono(h:Ext S w w')(hs:∀b,b<w.heap.size->S b->K b):Ext K w w':=
 ⟨h.size,λb c d=>h.block b c (λe=>d (hs b c e))⟩
theorem Ext.below(h:OS w w'):Ext S w w':=⟨h.size,λb c _=>h.block b c⟩
theorem Ext.cell{S:Nat->Prop}{w w':W_}(h:Ext S w w'){b o:Nat}(c:b<w)(hs:¬S b):w'.cell? (b,o)=w.cell? (b,o):=
 ii (a:=⟨b,o,none⟩) (h.block b c hs)
theorem Ext.bx(h:Ext S w w')(b:Bx w m J N)(hs:¬S m):Bx w' m J N:=(h.block m b.lt hs).trans b
theorem Ext.own(l:Ext S w w')(e:w.ownsRow m c i u n I)(hs:∀k,u.ownBlock=some k->¬S k):w'.ownsRow m c i u n I:=by
 refine⟨e.1,?_⟩;rcases e.2 with h1|⟨g,o,q,d,p,b,h⟩
 ·exact .inl h1
 ·refine .inr ⟨g,o,q,d,p,?_,h⟩;have f:g<w:=(co.1 b).1;exact(l.block g f (hs g (by rw[d];rfl))).trans b
def Av(P:Nat->Prop)(a:Option A_)(n:Nat):Prop:=0<n->∀p,a=some p->P p.block
theorem aD.lt_(h:aD w a n l):Av (λb=>b<w) a n:=λf p c=>by
 have⟨b,i,e,d,_⟩:=h.2.2 f;rw[e] at c;cases c
 exact d
theorem bm.ltA(h:bm w a n l):Av (λb=>b<w) a n:=λf p c=>by
 have⟨b,i,e,d,_⟩:=h.2.2.2 f;rw[e] at c;cases c
 exact d
theorem Bytes.ltA(h:Bytes w a n l):Av (λb=>b<w) a n:=λc p d=>by
 have⟨b,f,e,hc⟩:=h.2.2.2 c;rw[e] at d;cases d
 exact TX w _ (hc 0 c)
theorem aD.ext(h:aD w a n l)(e:Ext S w w')(i:Av P a n)(hd:∀b,b<w.heap.size->P b->¬S b):aD w' a n l:=by
 refine⟨h.1,h.2.1,λd=>?_⟩;have⟨b,p,f,c,hc⟩:=h.2.2 d;refine⟨b,p,f,OE c e.size,λo m=>?_⟩;rw[e.cell c (hd b c (i d _ f))];exact hc o m
theorem bm.ext(h:bm w a n l)(e:Ext S w w')(i:Av P a n)(hd:∀b,b<w.heap.size->P b->¬S b):bm w' a n l:=by
 refine⟨h.1,h.2.1,h.2.2.1,λd=>?_⟩;have⟨b,p,f,c,hc⟩:=h.2.2.2 d;refine⟨b,p,f,OE c e.size,λo m=>?_⟩;rw[e.cell c (hd b c (i d _ f))];exact hc o m
theorem Bytes.ext(h:Bytes w a n l)(i:Ext S w w')(f:Av P a n)(hd:∀b,b<w.heap.size->P b->¬S b):Bytes w' a n l:=by
 refine⟨h.1,h.2.1,h.2.2.1,λc=>?_⟩;have⟨b,p,e,hc⟩:=h.2.2.2 c;have d:b<w.heap.size:=TX w _ (hc 0 c);refine⟨b,p,e,λo m=>?_⟩;rw[i.cell d (hd b d (f c _ e))];exact hc o m
def FLF(P:Nat->Prop)(w:W_)(a:Option A_)(k:Nat)(fs:List Fr):Prop:=
 fs.length=k/\k<=maxLen/\(0<k->∃b off,a=some ⟨b,off,none⟩/\P b/\b<w.heap.size/\∀i f,fs[i]?=some f->∃a1 n1 c1 a2 c2,w.cell? ⟨b,off+i*3,none⟩=Zb f.kind/\w.cell? ⟨b,off+i*3+1,none⟩=some (.slice a1 n1 c1)/\w.cell? ⟨b,off+i*3+2,none⟩=some (.slice a2 f.nb c2)/\aD w a1 n1 f.al/\bm w a2 f.nb f.bs/\n1<=c1/\f.nb<=c2/\Av P a1 n1/\Av P a2 f.nb)
theorem FLF.nil(P:Nat->Prop)(w:W_):FLF P w none 0 []:=⟨rfl,by rw[aG];omega,λh=>absurd h (by omega)⟩
theorem FLF.fl(h:FLF P w a k L):FL w a k L:=by
 have⟨h1,h2,y⟩:=h;refine⟨h1,h2,λd=>?_⟩;have⟨f,z,x,_,b,hc⟩:=y d;refine⟨f,z,x,b,λi t e=>?_⟩;have⟨p,l,c1,c,c2,q,v,o,u,r,s,m,_⟩:=hc i t e;exact⟨p,l,c1,c,c2,q,v,o,u,r,s,m⟩
theorem FLF.imp(q:FLF P w a k L)(e:∀c,c<w.heap.size->P c->K c):FLF K w a k L:=by
 have⟨h1,h2,F⟩:=q;refine⟨h1,h2,λb=>?_⟩;have⟨c,G,E,A,f,hc⟩:=F b;refine⟨c,G,E,e c f A,f,λo y m=>?_⟩;have⟨u,r,c1,l,c2,v,C,t,i,h,x,s,z,D⟩:=hc o y m;exact⟨u,r,c1,l,c2,v,C,t,i,h,x,s,λd p b=>e _ (i.lt_ d p b) (z d p b),λd p b=>e _ (h.ltA d p b) (D d p b)⟩
theorem FLF.Er(h:FLA m w a k L)(c:∀b,b<w.heap.size->m<=b->P b):FLF P w a k L:=by
 have h0:FLF (λb=>m<=b) w a k L:=h;exact h0.imp c
theorem FLF.ext{S P:Nat->Prop}{w w':W_}{a:Option A_}{k:Nat}{e:List Fr}(q:FLF P w a k e)(c:Ext S w w')(hd:∀b,b<w.heap.size->P b->¬S b):FLF P w' a k e:=by
 have⟨h1,h2,E⟩:=q;refine⟨h1,h2,λm=>?_⟩;have⟨b,F,D,h,d,hc⟩:=E m;refine⟨b,F,D,h,OE d c.size,λp z o=>?_⟩;have⟨u,r,c1,l,c2,v,C,t,A,x,y,s,f,i⟩:=hc p z o;have hs:=hd b d h;exact⟨u,r,c1,l,c2,(c.cell d hs).trans v,(c.cell d hs).trans C,(c.cell d hs).trans t,A.ext c f hd,x.ext c i hd,y,s,f,i⟩
end
theorem fC(h:Nat)(d:PL v q m X)(s:m<=1000):
 C_ prog 176 #[(q,m,h)] v λe w'=>∃b c2,e=Zv (.slice b m c2)/\H_ (PL w' b m X)/\H_ (m<=c2)/\H_ (∀p,b=some p->v.heap.size<=p.block)/\H_ (OS v w'):=by
 apply(mo h d (by omega)).mono;rintro e w' ⟨t,rfl,r,l⟩;have⟨b,c2,i,hc,f,o⟩:=aF r;have c:=d.1;rw[c] at i hc f;subst i;exact⟨b,c2,rfl,⟨c,f⟩,hc,o,l⟩
theorem zH{w1:W_}(h:dV m v c u W)(i:v<=w1.heap.size)(f:m<=w1)(d:∀p,q=some p->w1.heap.size<=p.block)(n:Nat):0<n->∀p,q=some p->u.ownBlock≠some p.block/\m<=p.block:=
 λ_ p b=>⟨λe=>by have h1:=(h.lt _ e).2;have h2:=d p b;omega,by have h2:=d p b;omega⟩
theorem nV(an:Nat)(G:EL v q m W)(hk:m<=1000)(V:∀e∈W,e.aR.length<=1000):
 C_ prog 173 #[(q,m,an)] v λe w'=>∃c b,e=Zv (.slice c m b)/\H_ (dV v w' v (.slice c m b) W)/\H_ (OS v w'):=by
 have HE:=Y G;have C:=Y G.1;have ah:=Y V;clear G V;go_enter func173,ntmps173;go_wp2;go_loopw [3,8] (λak N wr=>∃(j:Nat) (c:Option A_) (b:Nat),j<=m/\N=Zb (j:Int)/\ak=.slice c j b/\H_ (dV v wr v (.slice c j b) (W.take j))/\H_ (OS v wr)) (λ_ N _=>m-(intOf N).toNat)
 case atStart=>exact⟨0,none,0,by omega,rfl,rfl,dV.nil _ _ _,ce _ _⟩
 case round=>
  obtain⟨j,c,b,hj,rfl,rfl,A,H⟩:=hrel;by_cases ao:j<m
  ·have⟨aq,au,e,ai,d,F,ap,_,L,Z,e1,i,hc⟩:=(HE.later H).at_ j ao;subst ap;have⟨z,t⟩:=e;have HX:=Y L;have ab:=ah _ (OR L);have ar:=Y i.1;have al:d<=1000:=by have h1:t.length=d:=i.1;have h2:t.length<=1000:=ab;omega
   have HP:=Y i;dsimp only at Z;clear L i ab;have⟨T,x⟩:=ZX (wr.alloc (.cells #[Zb z,(ai,d,F)] 299));have y:=bxA x;have M:=beA x;have R:=Y (H.t M);have Q:=Y (A.later M);have P1:=Y (HP.later M);have D:=y.lt;have J:=R.size;go_wp2;rw[<-x];clear Z e1;have s:=y.cell 0;have u:=y.cell 1;simp only[OB,Oz,OA] at s u;go_region_held3 (λw'=>w'.cell? ⟨wr,0,none⟩=Zb z/\w'.cell? ⟨wr,1,none⟩=(ai,d,F))
    (first|exact⟨s,u⟩|exact⟨o,r⟩|exact⟨((af (v:=f)).cell (p:=⟨wr,0,none⟩) ad).trans o,((af (v:=f)).cell (p:=⟨wr,1,none⟩) ad).trans r⟩|exact⟨(l.cell (a:=⟨wr,0,none⟩) o (λe=>U e.symm)),(l.cell (a:=⟨wr,1,none⟩) r (λe=>U e.symm))⟩)
    (first|(refine l5 (w:=f) rfl (K:=.tmp 12) (I:=.tmp 19) rfl v v (W.take j) ?o1 z a2 d c2 t ?o5 ?o6 ?o7 ?o8 ?o9 ?o10 ?_;(case o1=>exact O);(case o5=>exact P2);(case o6=>exact C2);(case o7=>exact N2 d);(case o8=>rfl);(case o9=>have:=C.o;rw[OM];omega);(case o10=>exact S2);intro v3 w3 E l)|(go_at_call 176;refine(fC F (P1.later (ce _ _).drew) al).mono ?_;rintro e f ⟨a2,c2,rfl,P2,C2,A2,h⟩;have o:=(h.cell (p:=⟨wr,0,none⟩) D).trans s;have r:=(h.cell (p:=⟨wr,1,none⟩) D).trans u;have ad:=OE D h.size;have D2:=Y (show OS T f from(ce _ _).drew.trans h);have O:=Y (Q.later D2);have N2:=Y (zH (w1:=T) Q (OJ _) J A2);have S2:=Y (OP J h.size);have U:=Y (show(Value.slice c j b).ownBlock≠some wr from λe=>by have:=(A.lt _ e).2;omega)))
   all_goals
    have G3:=Y (show f.grownBy w3 (Value.slice c j b).ownBlock from l);have B3:=Y (R.trans ((D2.mono J).trans ((ce _ _).grown G3 S2 (λaj hi=>(O.lt aj hi).1))));have⟨a3,c3,ae,_⟩:=E.el;have am:(W.take j++[(⟨z,t⟩:Ep)]).length=j+1:=by rw[OC,OM];have:=C.o;simp;omega
    rw[am] at ae;subst ae;have O3:=Y (show dV v w3 v (a3,j+1,c3) (W.take (j+1)) by rw[az _ _ HX];exact E);clear E l s u o r;go_wp2;go_roundw
    case rel=>exact⟨j+1,a3,c3,by omega,by go_num,rfl,O3,B3⟩
    case measure=>simp[intOf];omega
  ·obtain rfl:j=m:=by omega
   have OF:=Y (show dV v wr v (.slice c j b) W by
    have ag:=A.o;rw[OL (by rw[C];omega)] at ag;exact ag)
   go_wp2;go_ret;exact⟨c,b,rfl,OF,H⟩
theorem lU(u:Option A_)(o l:Nat)(t:Bool)(z:Z.num=x)(p:EL v q m Z.se)(hc:m<=c)(h0:0<=y)(hk:y<=x)(V:x<=2147483647)(hs:m<=1000):
 C_ prog 246 #[.agg #[x,(u,o,l),(q,m,c),Zl t],y] v λA w'=>∃E K,A=Zv (.slice E (aX Z y).length K)/\H_ (EL w' E (aX Z y).length (aX Z y))/\H_ (OS v w'):=by
 have s:=Y p;have f:=Y p.1;have F:=Y z;clear p z;by_cases r:(m:Int)<=x-y
 ·have e:=Y (show aX Z y=Z.se by
   unfold aX Mx.many;rw[f,F,show m-min (x-y).toNat m=0 by omega,Un])
  rw[e,f];have b:=Y (af (v:=v) (P:=.cells #[x,(u,o,l),(q,m,c),Zl t] 233));have i:=Y (s.later b);rcases Int.lt_or_eq_of_le r with h1|h1
  ·go_enter func246,ntmps246;go_wp2;go_ret;exact⟨q,c,rfl,i,b⟩
  ·obtain rfl:x=y+m:=by omega
   have H:y+(m:Int)-y=m:=by omega
   clear h1 r;go_enter func246,ntmps246;go_wp2;go_ret;exact⟨q,c,rfl,i,b⟩
 ·have⟨D,Q⟩:=TA (show 0<=x-y by omega);obtain rfl:x=y+D:=by omega
  have T:(D:Int)<m:=by omega
  have ab:D<m:=by omega
  have e:=Y (show aX Z y=Z.se.drop (m-D) by
   unfold aX Mx.many;rw[f,F,show min (y+(D:Int)-y).toNat m=D by omega])
  have R:=Y (show(aX Z y).length=D by rw[e,ge,f];omega);rw[R];have⟨C,G,A,ai,X,W,O,_⟩:=s.at_ 0 (by omega);subst O;have b:=Y (af (v:=v) (P:=.cells #[Zb (y+D),(u,o,l),(C,G,m,c),Zl t] 233));have i:=Y (s.later b);have⟨lo,d⟩:=ZX (m-D);have U:(m:Int)-D=(lo:Int):=by rw[d];omega
  have N:lo<=m:=by rw[d];omega
  have I:m-lo=D:=by rw[d];omega
  have H:y+(D:Int)-y=D:=by omega
  clear r Q;by_cases L:c=lo
  ·have M:=Y (show D=0 by omega);go_enter func246,ntmps246;go_wp2;go_ret;exact⟨_,_,rfl,by rw[e,M,Nat.sub_zero,Pi (by rw[f];omega)];exact⟨rfl,by unfold maxLen;omega,λh=>absurd h (by omega)⟩,by first|exact b|(subst L;exact b)⟩
  ·have J:=Y (show EL _ (some ⟨C,G+lo*2,none⟩) D (Z.se.drop (m-D)) by
    have h:=i.drop lo N;rw[I,d] at h;rw[d];exact h)
   go_enter func246,ntmps246;go_wp2;go_ret;exact⟨_,_,rfl,by rw[e];exact J,b⟩
section
variable {B g:Nat}{w w':W_}{a:Option A_}{n:Int}
def im(B:Nat)(w:W_)(v:V_)(b:Bu):Prop:=
 ∃(oa:Option A_) (on oc:Nat) (sa:Option A_) (sn sc:Nat),v=.agg #[Zb b.num,(oa,on,oc),(sa,sn,sc),Zl b.be]/\PL w oa on b.op/\(0<on->∀p,oa=some p->B<=p.block)/\ELA B w sa sn b.se/\on<=oc/\sn<=sc
theorem ELA.nil(B:Nat)(w:W_):ELA B w none 0 []:=⟨rfl,by unfold maxLen;omega,λh=>absurd h (by omega)⟩
theorem ELA.lower(h:ELA B w a c W)(v:m<=B):ELA m w a c W:=by
 have⟨h1,h2,s⟩:=h;refine⟨h1,h2,λb=>?_⟩;have⟨l,t,r,x,e,hc⟩:=s b;refine⟨l,t,r,by omega,e,λi o d=>?_⟩;have⟨q,f,u,c1,c2,c3,c4,c5⟩:=hc i o d;exact⟨q,f,u,c1,c2,c3,c4,λh0 p b=>by have:=c5 h0 p b;omega⟩
theorem im.zero(B:Nat)(w:W_):im B w (.agg #[Zi,Zs,Zs,Zl false]) zBu:=⟨none,0,0,none,0,0,rfl,PL.nil w,λh=>absurd h (by omega),ELA.nil B w,OJ _,OJ _⟩
theorem Bx.ed(h:Bx w g #[u,R,Q,O] N)(d b e c:V_):Bx ((((w.setCell g d).setCell (g,1) b).setCell (g,2) e).setCell (g,3) c) g #[d,b,e,c] N:=
 (((h.set 0 d).set 1 b).set 2 e).set 3 c
def qq(w:W_)(g:Nat)(s0 s1 s2 s3:V_):W_:=(((w.setCell ⟨g,0,none⟩ s0).setCell ⟨g,1,none⟩ s1).setCell ⟨g,2,none⟩ s2).setCell ⟨g,3,none⟩ s3
theorem cN(h:Below B w w')(b:B<=g):Below B w (qq w' g u R Q O):=
 (((h.setCell (p:=⟨g,0,none⟩) b _).setCell (p:=⟨g,1,none⟩) b _).setCell (p:=⟨g,2,none⟩) b _).setCell (p:=⟨g,3,none⟩) b _
theorem gR(h:w.grownBy w' (some g)):w.grownBy (qq w' g u R Q O) (some g):=ak (ak (ak (ak h _ _) _ _) _ _) _ _
def Zc:Array V_:=(jV jm).toArray
theorem pI(w:W_):(zeroValue 293).run prog w=.ok (.agg Zc) w:=by kernel_rfl
theorem LB.new(w:W_):LB (w.alloc (.cells Zc 293)) w jm:=⟨rfl,Bx.new w _ _⟩
theorem PL.one(h:Bx w g (Zq x d) N):PL w (some ⟨g,0,none⟩) 1 [⟨x,d⟩]:=
 ⟨rfl,by simp[ig,Pt.cs],by unfold maxLen;omega,λ_=>⟨g,0,rfl,h.lt,λj u b=>by rw[m9,h.cell];simpa[ig,Pt.cs] using b⟩⟩
theorem lA(h:w.grownBy w' (some g))(b:g<=w):Below g w w':=⟨h.os,h.tape,h.output,h.size,λk c=>h.block k (by omega) (λe=>by have:k=g:=OG e;omega)⟩
theorem PL.off{w:W_}{a:Option A_}{n:Nat}{l:List Pt}{g:Nat}(h:PL w a n l)(i:w<=g):0<n->∀p,a=some p->p.block≠g:=by
 intro h0 p b;have⟨c,m,d,f,_⟩:=h.2.2.2 h0;rw[d] at b;cases b
 intro e;change c=g at e;omega
theorem bt.full(h:bt w i (a,m,c) X):PL w a m X/\m<=c/\∀p,a=some p->i<=p.block:=by
 have⟨l,f,b,hc,e,d⟩:=aF h;simp only[Value.slice.injEq] at b;obtain⟨rfl,rfl,rfl⟩:=b;exact⟨⟨rfl,e⟩,hc,d⟩
theorem dV.full(h:dV B w i (a,m,c) W)(d:B<=i):ELA B w a m W/\m<=c:=by
 have⟨l,f,b,hc,e⟩:=h.ela d;simp only[Value.slice.injEq] at b;obtain⟨rfl,rfl,rfl⟩:=b;exact⟨e,hc⟩
namespace Mx
def jD(b:Bu)(n:Int)(p:Pt):Int:=if aY b n=0 then(if p.at_<0\/n<=p.at_ then 1 else 0) else aY b n
theorem Gh{p:Pt}(h:aY Z n≠0):jD Z n p=aY Z n:=by rw[jD,UX h]
theorem uZ{b:Bu}{p:Pt}(h:aY b n=0)(c:p.at_<0\/n<=p.at_):jD b n p=1:=by rw[jD,UY h,UY c]
theorem Cy{b:Bu}{p:Pt}(h:aY b n=0)(c:¬(p.at_<0\/n<=p.at_)):jD b n p=0:=by rw[jD,UY h,UX c]
def added(b:Bu)(n:Int)(p:Pt):Bu:=if jD b n p=0 then gV b p else zBu
theorem kK(h:jD Z n V=x)(b:x≠0):added Z n V=zBu:=by rw[added,UX (by rw[h];exact b)]
theorem uY(h:jD Z n V=0):added Z n V=gV Z V:=by rw[added,UY h]
end Mx
theorem yQ(f:Int)(A y:Nat)(h:Bool)(n e:Int)(d:B8)(t:PL v q m X)(he:EL v p c W)(ay:small X W):
 C_ Tryz.prog 144 #[.agg #[.int .i64 f,.slice q m A,.slice p c y,.bool h],.int .i64 n,.agg #[.int .i64 e,.int .u8 d.z0,.int .u8 d.z1,.int .u8 d.z2,.int .u8 d.z3,.int .u8 d.z4,.int .u8 d.z5,.int .u8 d.z6,.int .u8 d.z7]] v λl w'=>
  ∃ad,l=.returned (.tuple #[ad,aJ (jD ⟨f,X,W,h⟩ n ⟨e,d⟩)])∧H_ (im v.heap.size w' ad (added ⟨f,X,W,h⟩ n ⟨e,d⟩))∧H_ (OS v w'):=by
 obtain⟨w0,ae⟩:∃w0:W_,H_ (w0=((v.alloc (.cells #[.int .i64 f,.slice q m A,.slice p c y,.bool h] 233)).alloc (.cells #[.int .i64 e,.int .u8 d.z0,.int .u8 d.z1,.int .u8 d.z2,.int .u8 d.z3,.int .u8 d.z4,.int .u8 d.z5,.int .u8 d.z6,.int .u8 d.z7] 123)).alloc (.cells #[.int .i64 0,.slice none 0 0,.slice none 0 0,.bool false] 233)):=⟨_,rfl⟩;have XB:=Y (show Bx w0 v.heap.size #[.int .i64 f,.slice q m A,.slice p c y,.bool h] 233 by rw[ae.o];exact((Bx.new v _ _).alloc _).alloc _);have XP:=Y (show Bx w0 (v.heap.size+1) #[.int .i64 e,.int .u8 d.z0,.int .u8 d.z1,.int .u8 d.z2,.int .u8 d.z3,.int .u8 d.z4,.int .u8 d.z5,.int .u8 d.z6,.int .u8 d.z7] 123 by
  rw[ae.o];have ag:=(Bx.new (v.alloc (.cells #[.int .i64 f,.slice q m A,.slice p c y,.bool h] 233)) #[.int .i64 e,.int .u8 d.z0,.int .u8 d.z1,.int .u8 d.z2,.int .u8 d.z3,.int .u8 d.z4,.int .u8 d.z5,.int .u8 d.z6,.int .u8 d.z7] 123).alloc (.cells #[.int .i64 0,.slice none 0 0,.slice none 0 0,.bool false] 233);rw[dl] at ag;exact ag)
 have XR:=Y (show Bx w0 (v.heap.size+1+1) #[.int .i64 0,.slice none 0 0,.slice none 0 0,.bool false] 233 by
  rw[ae.o];have ag:=Bx.new ((v.alloc (.cells #[.int .i64 f,.slice q m A,.slice p c y,.bool h] 233)).alloc (.cells #[.int .i64 e,.int .u8 d.z0,.int .u8 d.z1,.int .u8 d.z2,.int .u8 d.z3,.int .u8 d.z4,.int .u8 d.z5,.int .u8 d.z6,.int .u8 d.z7] 123)) #[.int .i64 0,.slice none 0 0,.slice none 0 0,.bool false] 233;rw[dl,dl] at ag;exact ag)
 have B0:=Y (show OS v w0 by rw[ae.o];exact((af).alloc (by simp) _).alloc (by simp;omega) _);have av:=Y (t.later B0.o);have az:=Y (he.later B0.o);have aN:=Y he.1;have aP:=Y t.1;have aA:=Y ay;clear t he ay;go_enter Tryz.func144,Tryz.ntmps144;go_wp2_with fail;rw[←ae.o];refine(my f A y h n av.o az.o).mono ?_;rintro l r ⟨rfl,G⟩;have ah:=Y (XB.o.later G XB.o.lt);have ak:=Y (XP.o.later G XP.o.lt);have D:=Y (XR.o.later G XR.o.lt);have B1:=Y (B0.o.trans (G.mono B0.o.size));have aB:=Y (av.o.later G);have aF:=Y (az.o.later G);clear G;have aU:v.heap.size+1+1<r.heap.size:=D.o.lt;have aR:v.heap.size<r.heap.size:=ah.o.lt;have aT:v.heap.size+1<r.heap.size:=ak.o.lt;have⟨b0,b1,b2,b3⟩:=ah.o.four;have⟨q0,q1,q2,q3,q4,q5,q6,q7,q8⟩:=Bx.nine (p:=⟨e,d⟩) ak.o;dsimp only at q0 q1 q2 q3 q4 q5 q6 q7 q8;have⟨r0,r1,r2,r3⟩:=D.o.four;have rz:=D.o.frozen;by_cases L:aY ⟨f,X,W,h⟩ n=0
 ·have H:=Y L;rw[L,aQ];clear L;have aq:=Y (cb H.o);by_cases h1:e<0
  ·have aL:decide (e<0)=true:=by simpa using h1
   have o:=Y (uZ (b:=⟨f,X,W,h⟩) (n:=n) (p:=⟨e,d⟩) H.o (.inl h1));have T:=Y (kK o.o (by omega));go_wp2_with fail;have⟨F,E,U,K⟩:=(D.o.ed (.int .i64 0) (.slice none 0 0) (.slice none 0 0) (.bool false)).four;exact UM (v:=.tuple #[.agg #[.int .i64 0,.slice none 0 0,.slice none 0 0,.bool false],.iface 70 (.int .i64 1)]) (by simp[results,Tryz.results144,go_sem,F,E,U,K]) rfl ⟨_,by rw[o.o]<;>rfl,by rw[T.o];exact im.zero _ _,Y (cN B1.o (by omega))⟩
  ·have aL:decide (e<0)=false:=by simpa using h1
   by_cases h2:n≤e
   ·have aH:decide (n≤e)=true:=by simpa using h2
    have o:=Y (uZ (b:=⟨f,X,W,h⟩) (n:=n) (p:=⟨e,d⟩) H.o (.inr h2));have T:=Y (kK o.o (by omega));go_wp2_with fail;have⟨F,E,U,K⟩:=(D.o.ed (.int .i64 0) (.slice none 0 0) (.slice none 0 0) (.bool false)).four;exact UM (v:=.tuple #[.agg #[.int .i64 0,.slice none 0 0,.slice none 0 0,.bool false],.iface 70 (.int .i64 1)]) (by simp[results,Tryz.results144,go_sem,F,E,U,K]) rfl ⟨_,by rw[o.o]<;>rfl,by rw[T.o];exact im.zero _ _,Y (cN B1.o (by omega))⟩
   ·have aH:decide (n≤e)=false:=by simpa using h2
    have o:=Y (Cy (b:=⟨f,X,W,h⟩) (p:=⟨e,d⟩) (n:=n) H.o (by show ¬(e<0∨n≤e);omega));have T:=Y (uY o.o);have ao:=Y (show 0≤e∧e<32 by have:=aq.o.1;omega);have ax:=Y (rQ (cJ aq.o.2.2).2.1 (by have:=aq.o.1;omega));have hz:=pI;go_wp2_with fail;clear hz;obtain⟨W1,al⟩:∃W1:W_,H_ (W1=r.alloc (.cells Zc 293)):=⟨_,rfl⟩;rw[←al.o];have L1:=Y (show LB W1 r.heap.size jm by rw[al.o];exact LB.new r);have C1:=beA al;refine(qw A L1.o (aB.o.later C1.o) (aB.o.off (OJ _)) (oD ax.o)).mono ?_;rintro l V ⟨rfl,L2,G2⟩;have C2:=Y (show OS r V from C1.o.trans (lA G2.o C1.o.size));clear b0 b1 b2 b3 q0 q1 q2 q3 q4 q5 q6 q7 q8 r0 r1 r2 r3 rz;have⟨q0,q1,q2,q3,q4,q5,q6,q7,q8⟩:=Bx.nine (p:=⟨e,d⟩) (ak.o.later C2.o ak.o.lt);dsimp only at q0 q1 q2 q3 q4 q5 q6 q7 q8;go_wp2_with fail;clear q0 q1 q2 q3 q4 q5 q6 q7 q8;obtain⟨W3,ar⟩:∃W3:W_,H_ (W3=V.alloc (.cells #[.int .i64 e,.int .u8 d.z0,.int .u8 d.z1,.int .u8 d.z2,.int .u8 d.z3,.int .u8 d.z4,.int .u8 d.z5,.int .u8 d.z6,.int .u8 d.z7] 123)):=⟨_,rfl⟩;rw[←ar.o];have am:=beA ar;have aO:r.heap.size<V.heap.size:=L2.o.2.lt;have L3:=Y (L2.o.later am.o aO);have P3:=Y (show PL W3 (some ⟨V.heap.size,0,none⟩) 1 [⟨e,d⟩] by rw[ar.o];exact PL.one (Bx.new V _ _));refine(qw 1 L3.o P3.o (λ_ i t=>by cases t;show ¬V.heap.size=r.heap.size;omega) (λaV hq=>by simp at hq;subst hq;exact ao.o)).mono ?_;rintro l C ⟨rfl,L4,G4⟩;have C4:=Y (show OS r C from C2.o.trans ((am.o.mono (by omega)).trans (lA G4.o (by have:=am.o.size;omega))));have aD:=Y (IN (p:=⟨e,d⟩) ax.o ao.o.1 ao.o.2);have aj:=Y (ah.o.later C4.o ah.o.lt);have ab:=Y (D.o.later C4.o D.o.lt);have aM:=Y (aF.o.later C4.o);have aG:r.heap.size≤C.heap.size:=C4.o.size;have ap:v.heap.size<C.heap.size:=aj.o.lt;have ai:v.heap.size+1+1<C.heap.size:=ab.o.lt;have⟨b0,b1,b2,b3⟩:=aj.o.four;have aK:c≤1000:=by have:=aN.o;have:=aA.o.2.1;omega
    have aE:=Y (show ∀l∈W,l.aR.length≤1000 from λl he=>by have:=aA.o.1 l he;omega);have aC:¬v.heap.size+1+1=v.heap.size:=by omega
    have rz:=ab.o.frozen;have⟨r0,r1,r2,r3⟩:=ab.o.four;go_wp2_with fail;go_region_held3 (λw'=>w'.cell? ⟨v.heap.size,0,none⟩=some (.int .i64 f)∧w'.cell? ⟨v.heap.size,1,none⟩=some (.slice q m A)∧w'.cell? ⟨v.heap.size,2,none⟩=some (.slice p c y)∧w'.cell? ⟨v.heap.size,3,none⟩=some (.bool h))
     (first
       |with_reducible exact⟨d0,d1,d2,d3⟩
       |with_reducible exact⟨c0,c1,c2,c3⟩
       |(simp only[an];with_reducible exact⟨b0,b1,b2,b3⟩)
       |(simp only[aw aC];with_reducible exact⟨d0,d1,d2,d3⟩))
     (first
       |(go_at_call 172;refine(xd L4.o.drew).mono ?_;rintro l w5 ⟨z,I,rfl,O5,B5⟩;have N:=Y (show OS C w5 from(ce _ _).drew.trans B5.o);have aS:v.heap.size<w5.heap.size:=OE ap N.o.size;have⟨c0,c1,c2,c3⟩:=(aj.o.later N.o ap).four;have E5:=Y (aM.o.later N.o))
       |(go_at_call 173;refine(nV y E5.o aK aE.o).mono ?_;rintro l w6 ⟨x,M,rfl,O6,B6⟩;have D6:=Y (show OS C w6 from N.o.trans (B6.o.mono N.o.size));have⟨d0,d1,d2,d3⟩:=(aj.o.later D6.o ap).four;have ez:=(ab.o.later D6.o ai).frozen;have⟨e0,e1,e2,e3⟩:=(ab.o.later D6.o ai).four;clear b0 b1 b2 b3 c0 c1 c2 c3 r0 r1 r2 r3 rz))
    all_goals
     clear e0 e1 e2 e3 d0 d1 d2 d3 ez;obtain⟨s,aI⟩:∃s:Nat,H_ (s=(bj 0 (eC (eC jm X) [⟨e,d⟩])).length):=⟨_,rfl⟩;rw[←aI.o] at O5 ⊢;rw[aD.o] at O5;have F5:=Y (O5.o.full);have F6:=Y (O6.o.full (OJ _));have GF:=Y (gR (au w6 (J:=some (v.heap.size+1+1))) (u:=.int .i64 f) (R:=.slice z s I) (Q:=.slice x c M) (O:=.bool h));have BF:=Y (show OS v (qq w6 (v.heap.size+1+1) (.int .i64 f) (.slice z s I) (.slice x c M) (.bool h)) from cN (B1.o.trans ((C4.o.trans (D6.o.mono aG)).mono (by omega))) (by omega));have XF:=Y ((ab.o.later D6.o ai).ed (.int .i64 f) (.slice z s I) (.slice x c M) (.bool h));have PF:=Y (show PL (qq w6 (v.heap.size+1+1) (.int .i64 f) (.slice z s I) (.slice x c M) (.bool h)) z s (dS X ⟨e,d⟩) from(F5.o.1.later B6.o).grownBy GF.o (λ_ i t l=>by have h1:C.heap.size≤i.block:=F5.o.2.2 i t;have h2:v.heap.size+1+1=i.block:=OG l;omega));have EF:=Y (show ELA w5.heap.size (qq w6 (v.heap.size+1+1) (.int .i64 f) (.slice z s I) (.slice x c M) (.bool h)) x c W from F6.o.1.grown GF.o (OE ai N.o.size));go_wp2_with fail;have⟨F,E,U,K⟩:=XF.o.four;exact UM (v:=.tuple #[.agg #[.int .i64 f,.slice z s I,.slice x c M,.bool h],.nilIface]) (by simp[results,Tryz.results144,go_sem,F,E,U,K]) rfl ⟨_,by rw[o.o]<;>rfl,by rw[T.o];exact⟨z,s,I,x,c,M,rfl,PF.o,λ_ i t=>by have h1:C.heap.size≤i.block:=F5.o.2.2 i t;omega,EF.o.lower (by have:=N.o.size;omega),F5.o.2.1,F6.o.2⟩,BF⟩
 ·rw[bJ L];have H:=Y L;have o:=Y (Gh (p:=⟨e,d⟩) L);clear L;have T:=Y (kK o.o H.o);go_wp2_with fail;have⟨F,E,U,K⟩:=(D.o.ed (.int .i64 0) (.slice none 0 0) (.slice none 0 0) (.bool false)).four;exact UM (v:=.tuple #[.agg #[.int .i64 0,.slice none 0 0,.slice none 0 0,.bool false],.iface 70 (.int .i64 (aY ⟨f,X,W,h⟩ n))]) (by simp[results,Tryz.results144,go_sem,F,E,U,K]) rfl ⟨_,by rw[o.o,bJ H.o]<;>rfl,by rw[T.o];exact im.zero _ _,Y (cN B1.o (by omega))⟩
end
section
variable {n:Int}
theorem uu(h:¬c=i)(b:V_):(v.setCell (m,c) b).cell? (m,i)=v.cell? (m,i):=World.cell?_setCell_other v ⟨m,c,none⟩ ⟨m,i,none⟩ b (λe=>h (by cases e;rfl))
namespace Mx
def kG(b:Bu)(n:Int):Int:=if aY b n=0 then(if b.num=2147483647 then 2 else 0) else aY b n
theorem Ji(h:aY Z n≠0):kG Z n=aY Z n:=by rw[kG,UX h]
theorem MZ{b:Bu}(h:aY b n=0)(c:b.num=2147483647):kG b n=2:=by rw[kG,UY h,UY c]
theorem FU{b:Bu}(h:aY b n=0)(c:¬b.num=2147483647):kG b n=0:=by rw[kG,UY h,UX c]
def l3(b:Bu)(n:Int):Bu:=if kG b n=0 then cA b else zBu
theorem rW(h:kG Z n=x)(b:x≠0):l3 Z n=zBu:=by rw[l3,UX (by rw[h];exact b)]
theorem ud(h:kG Z n=0):l3 Z n=cA Z:=by rw[l3,UY h]
end Mx
theorem Jc(hp:PL v q m X)(U:EL v p i W)(ai:small X W):
 C_ Tryz.prog 146 #[.agg #[.int .i64 x,.slice q m c,.slice p i h,.bool T],.int .i64 y] v λl w'=>
  ∃Q,l=.returned (.tuple #[Q,aJ (kG ⟨x,X,W,T⟩ y)])∧H_ (im v.heap.size w' Q (l3 ⟨x,X,W,T⟩ y))∧H_ (OS v w'):=by
 obtain⟨w0,ag⟩:∃w0:W_,H_ (w0=(v.alloc (.cells #[.int .i64 x,.slice q m c,.slice p i h,.bool T] 233)).alloc (.cells #[.int .i64 0,.slice none 0 0,.slice none 0 0,.bool false] 233)):=⟨_,rfl⟩;have XB:=Y (show Bx w0 v.heap.size #[.int .i64 x,.slice q m c,.slice p i h,.bool T] 233 by rw[ag.o];exact(Bx.new v _ _).alloc _);have XR:=Y (show Bx w0 (v.heap.size+1) #[.int .i64 0,.slice none 0 0,.slice none 0 0,.bool false] 233 by
  rw[ag.o];have f:=Bx.new (v.alloc (.cells #[.int .i64 x,.slice q m c,.slice p i h,.bool T] 233)) #[.int .i64 0,.slice none 0 0,.slice none 0 0,.bool false] 233;rw[dl] at f;exact f)
 have B0:=Y (show OS v w0 by rw[ag.o];exact(af).alloc (by simp) _);have aB:=Y (hp.later B0.o);have aE:=Y (U.later B0.o);have ae:=Y U.1;have a0:=Y hp.1;have aW:=Y ai;have aR:i≤1000:=by have:=U.1;have:=ai.2.1;omega
 have aN:m≤1000:=by have:=hp.1;have:=ai.2.2;omega
 clear hp U ai;go_enter Tryz.func146,Tryz.ntmps146;go_wp2_with fail;rw[←ag.o];refine(my x c h T y aB.o aE.o).mono ?_;rintro l d ⟨rfl,M⟩;have al:=Y (XB.o.later M XB.o.lt);have G:=Y (XR.o.later M XR.o.lt);have B1:=Y (B0.o.trans (M.mono B0.o.size));have aX:=Y (aB.o.later M);have aL:=Y (aE.o.later M);clear M;have aV:v.heap.size+1<d.heap.size:=G.o.lt;have aO:v.heap.size<d.heap.size:=al.o.lt;have aZ:¬v.heap.size+1=v.heap.size:=by omega
 have⟨b0,b1,b2,b3⟩:=al.o.four;have⟨r0,r1,r2,r3⟩:=G.o.four;have rz:=G.o.frozen;by_cases F:aY ⟨x,X,W,T⟩ y=0
 ·have O:=Y F;rw[F,aQ];clear F;have am:=Y (cb O.o);have a1:x≤2147483647:=am.o.1.2.2.2;have a6:0≤x:=am.o.1.2.2.1;have a2:i≤4:=by have h1:W.length≤4:=am.o.2.1;have:=ae.o;omega
  by_cases h1:x=2147483647
  ·have r:=Y (MZ (b:=⟨x,X,W,T⟩) O.o h1);subst h1;have V:=Y (rW r.o (by omega));go_wp2_with fail;have⟨D,z,L,E⟩:=(G.o.ed (.int .i64 0) (.slice none 0 0) (.slice none 0 0) (.bool false)).four;exact UM (v:=.tuple #[.agg #[.int .i64 0,.slice none 0 0,.slice none 0 0,.bool false],.iface 70 (.int .i64 2)]) (by simp[results,Tryz.results146,go_sem,D,z,L,E]) rfl ⟨_,by rw[r.o]<;>rfl,by rw[V.o];exact im.zero _ _,Y (cN B1.o (by omega))⟩
  ·have a7:(x==2147483647)=false:=by simpa using h1
   have r:=Y (FU (b:=⟨x,X,W,T⟩) O.o h1);have V:=Y (ud r.o);by_cases ad:T=true∨i=4
   ·have ar:=Y (show cA ⟨x,X,W,T⟩=⟨x+1,[],[],true⟩ by
     unfold cA;rw[show ew ⟨x,X,W,T⟩=true by
      unfold ew;rcases ad with f|f
      ·simp[f]
      ·simp[ae.o,f]]
     rfl)
    have aI:T=true∨T=false∧i=4:=by
     cases T
     ·right;simpa using ad
     ·exact .inl rfl
    have HX:=Y (show Bx d (v.heap.size+1) #[.int .i64 0,.slice none 0 0,.slice none 0 0,.bool false] 233 from G.o);clear ad;rcases aI with rfl|⟨rfl,rfl⟩
    all_goals
     go_wp2_with fail;have⟨D,z,L,E⟩:=((HX.o.ed (.int .i64 (x+1)) (.slice none 0 0) (.slice none 0 0) (.bool true)).alloc (.cells #[.int .i64 (x+1),.slice none 0 0,.slice none 0 0,.bool true] 233)).four;exact UM (v:=.tuple #[.agg #[.int .i64 (x+1),.slice none 0 0,.slice none 0 0,.bool true],.nilIface]) (by simp[results,Tryz.results146,go_sem,D,z,L,E]) rfl ⟨_,by rw[r.o]<;>rfl,by rw[V.o,ar.o];exact⟨none,0,0,none,0,0,rfl,PL.nil _,λf=>absurd f (by omega),ELA.nil _ _,OJ _,OJ _⟩,Y ((cN B1.o (by omega)).alloc (cN B1.o (by omega)).size _)⟩
   ·have aC:T=false:=by cases T<;>simp_all
    have h4:¬i=4:=λf=>ad (.inr f)
    have d4:((i:Int)==4)=false:=by simp;omega
    have ar:=Y (show cA ⟨x,X,W,T⟩=⟨x+1,[],W++[⟨x+1,X⟩],false⟩ by
     unfold cA;rw[show ew ⟨x,X,W,T⟩=false by
      unfold ew;rw[aC,ae.o];simp[h4]]
     rfl)
    subst aC;clear ad h4;go_wp2_with fail;obtain⟨e,ao⟩:∃e:W_,H_ (e=d.alloc (.cells #[.int .i64 (x+1),.slice none 0 0,.slice none 0 0,.bool false] 233)):=⟨_,rfl⟩;rw[←ao.o];have C:=bxA ao;have D2:=beA ao;have ab:=Y (al.o.later D2.o aO);have aF:=Y (G.o.later D2.o aV);have aG:=Y (aX.o.later D2.o);have aP:=Y (aL.o.later D2.o);have H:d.heap.size<e.heap.size:=C.o.lt;have hbl:v.heap.size<e.heap.size:=ab.o.lt;have az:v.heap.size+1<e.heap.size:=aF.o.lt;have aS:¬d.heap.size=v.heap.size:=by omega
    have aU:¬d.heap.size=v.heap.size+1:=by omega
    have aH:=Y (show ∀l∈W,l.aR.length≤1000 from λl U=>by have:=aW.o.1 l U;omega);clear b0 b1 b2 b3 r0 r1 r2 r3 rz;have⟨_,b1,b2,_⟩:=ab.o.four;have⟨n0,_,_,_⟩:=C.o.four;go_region_held3 (λw'=>w'.cell? ⟨v.heap.size,1,none⟩=some (.slice q m c)∧w'.cell? ⟨v.heap.size,2,none⟩=some (.slice p i h)∧w'.cell? ⟨d.heap.size,0,none⟩=some (.int .i64 (x+1)))
     (first
       |with_reducible exact⟨e1,e2,e0⟩
       |with_reducible exact⟨d1,d2,d0⟩
       |with_reducible exact⟨c1,c2,c0⟩
       |(simp only[an];with_reducible exact⟨b1,b2,n0⟩)
       |(simp only[aq aT,aq aM];with_reducible exact⟨d1,d2,d0⟩)
       |(simp only[aw aS,uu (show ¬2=0 by omega)];with_reducible exact⟨e1,e2,e0⟩))
     (first
       |(go_at_call 173;refine(nV h (aP.o.later (ce _ _).drew) aR aH.o).mono ?_;rintro l w3 ⟨a3,k3,rfl,O3,B3⟩;have N:=Y (show OS e w3 from(ce _ _).drew.trans B3.o);have⟨_,c1,c2,_⟩:=(ab.o.later N.o hbl).four;have⟨c0,_,_,_⟩:=(C.o.later N.o H).four;have P3:=Y (aG.o.later N.o))
       |(go_at_call 176;refine(fC c P3.o aN).mono ?_;rintro l w4 ⟨a4,k4,rfl,P4,C4,A4,B4⟩;have t:=Y (show OS e w4 from N.o.trans (B4.o.mono N.o.size));have⟨_,d1,d2,_⟩:=(ab.o.later t.o hbl).four;have⟨d0,_,_,_⟩:=(C.o.later t.o H).four;have O4:=Y (O3.o.later B4.o);have N4:=Y (zH (w1:=w3) O3.o (OJ _) N.o.size A4.o);have aT:v.heap.size<w4.heap.size:=OE hbl t.o.size;have aM:d.heap.size<w4.heap.size:=OE H t.o.size)
       |(refine l5 (w:=w4) rfl (K:=.tmp 37) (I:=.tmp 44) rfl e.drew.heap.size e.drew.heap.size W ?o1 (x+1) a4 m k4 X ?o5 ?o6 ?o7 ?o8 ?o9 ?o10 ?_;(case o1=>exact O4.o);(case o5=>exact P4.o);(case o6=>exact C4.o);(case o7=>exact N4.o m);(case o8=>rfl);(case o9=>have:=ae.o;omega);(case o10=>exact t.o.size);intro v5 w5 ay aA;have D5:=Y (show OS e w5 from t.o.trans ((ce _ _).grown aA t.o.size (λaK hi=>(O4.o.lt aK hi).1)));have⟨_,e1,e2,_⟩:=(ab.o.later D5.o hbl).four;have⟨e0,n1,n2,n3⟩:=(C.o.later D5.o H).four;have nz:=(C.o.later D5.o H).frozen;have⟨o,s,aD,av,aj⟩:=ay.ela (OJ _);rw[OC,pu,ae.o] at aD av aj;subst aD;have E5:=Y aj;have K5:=Y av;clear ay aA aj av b1 b2 n0 c0 c1 c2 d0 d1 d2))
    all_goals
     have ax:=Y (show Bx (w5.setCell ⟨d.heap.size,2,none⟩ (.slice o (i+1) s)) d.heap.size #[.int .i64 (x+1),.slice none 0 0,.slice o (i+1) s,.bool false] 233 from(C.o.later D5.o H).set 2 _);have ah:=Y (show Bx (w5.setCell ⟨d.heap.size,2,none⟩ (.slice o (i+1) s)) (v.heap.size+1) _ _ from(aF.o.later D5.o az).other ⟨d.heap.size,2,none⟩ _ (λl=>aU l.symm));obtain⟨A,ap⟩:∃A:W_,H_ (A=w5.setCell ⟨d.heap.size,2,none⟩ (.slice o (i+1) s)):=⟨_,rfl⟩;have G6:=Y (show w5.grownBy A (some d.heap.size) by rw[ap.o];exact ak (au _) _ _);have B6:=Y (show OS v A by rw[ap.o];exact(B1.o.trans ((D2.o.trans (D5.o.mono (by omega))).mono (by omega))).setCell (by show v.heap.size≤d.heap.size;omega) _);rw[←ap.o] at ax ah ⊢;clear e0 e1 e2 n1 n2 n3 nz;have⟨m0,m1,m2,m3⟩:=ax.o.four;have⟨r0,r1,r2,r3⟩:=ah.o.four;have rz:=ah.o.frozen;have EF:=Y (show ELA e.drew.heap.size (qq A (v.heap.size+1) (.int .i64 (x+1)) (.slice none 0 0) (.slice o (i+1) s) (.bool false)) o (i+1) (W++[⟨x+1,X⟩]) from(E5.o.grown G6.o H).grown (gR (au A (J:=some (v.heap.size+1)))) az);have BF:=Y (show OS v (qq A (v.heap.size+1) (.int .i64 (x+1)) (.slice none 0 0) (.slice o (i+1) s) (.bool false)) from cN B6.o (by omega));go_wp2_with fail;have⟨D,z,L,E⟩:=(ah.o.ed (.int .i64 (x+1)) (.slice none 0 0) (.slice o (i+1) s) (.bool false)).four;exact UM (v:=.tuple #[.agg #[.int .i64 (x+1),.slice none 0 0,.slice o (i+1) s,.bool false],.nilIface]) (by simp[results,Tryz.results146,go_sem,D,z,L,E]) rfl ⟨_,by rw[r.o]<;>rfl,by rw[V.o,ar.o];exact⟨none,0,0,o,i+1,s,rfl,PL.nil _,λf=>absurd f (by omega),EF.o.lower (by show v.heap.size≤e.heap.size;omega),OJ _,K5.o⟩,BF⟩
 ·rw[bJ F];have O:=Y F;have r:=Y (Ji F);clear F;have V:=Y (rW r.o O.o);go_wp2_with fail;have⟨D,z,L,E⟩:=(G.o.ed (.int .i64 0) (.slice none 0 0) (.slice none 0 0) (.bool false)).four;exact UM (v:=.tuple #[.agg #[.int .i64 0,.slice none 0 0,.slice none 0 0,.bool false],.iface 70 (.int .i64 (aY ⟨x,X,W,T⟩ y))]) (by simp[results,Tryz.results146,go_sem,D,z,L,E]) rfl ⟨_,by rw[r.o,bJ O.o]<;>rfl,by rw[V.o];exact im.zero _ _,Y (cN B1.o (by omega))⟩
end
section
variable {w:W_}{n k:Int}
theorem jS(h:Below v.drew.heap.size v.drew z):OS v z:=(ce _ _).drew.trans h
theorem iq(h:Below (v.alloc H).drew.heap.size (v.alloc H).drew z):OS v z:=(af (v:=v) (P:=H)).drew.trans (h.mono (by show v<=(v.alloc H).heap.size;simp))
namespace Mx
def dropped(b:Bu)(n k:Int):Bu:=if dR b n k=0 then dj b k else zBu
theorem xY(h:dR Z n k=x)(b:x≠0):dropped Z n k=zBu:=by rw[dropped,UX (by rw[h];exact b)]
theorem qW(h:dR Z n k=0):dropped Z n k=dj Z k:=by rw[dropped,UY h]
theorem zE(h:dR Z n k=0):aY Z n=0/\0<=k/\k<=Z.num:=by
 unfold dR at h;split at h
 ·next h1=>
  split at h
  ·omega
  ·exact⟨h1,by omega,by omega⟩
 ·omega
theorem nZ{b:Bu}:(aX b k).length<=b.se.length:=by
 unfold aX;rw[ge];omega
theorem n5:∀e∈aX Z k,e∈Z.se:=λ_ b=>In b
end Mx
theorem tkw{P:Program}{b:Region.Mode}(i:Nat)(h:wpAnyH P b G F E m (C.setIfInBounds i true) (A.put D.dst u) w)(d:E w)(o:G[i]?=D:=by rfl)(q:YieldsIf P G E D u A:=by first|exact Or.inr ⟨by rfl,rfl⟩|exact Or.inl ⟨by rfl,λw p=>by(try dsimp only at p);go_simp;first|done|with_reducible rfl⟩)(hs:Region.noSelect G=true:=by kernel_rfl)(l:Region.free b G C i=true:=by kernel_rfl)(f:(Region.ready b G C).contains i=true:=by kernel_rfl)(e:∀c A w,F (.panic c) (A.put D.dst u) w->F (.panic c) A w:=by exact λ_ _ _ h=>h):wpAnyH P b G F E (m+1) C A w:=wpAnyH_take o hs l f e q d h
theorem dr3{l g:Nat}(I:H_ (dR ⟨x,X,W,T⟩ n k=0/\dropped ⟨x,X,W,T⟩ n k=⟨x,X,r,f⟩))(af:H_ (∀w,EL w p i W->C_ prog 246 #[.agg #[Zb x,(q,m,c),(p,i,h),Zl T],Zb k] w (λe w'=>∃a' c',e=Zv (.slice a' r.length c')/\H_ (EL w' a' r.length r)/\H_ (OS w w'))))(Z:H_ (r.length<=1000/\∀e∈r,e.aR.length<=1000))(XB:H_ (Bx v w #[Zb x,(q,m,c),(p,i,h),Zl T] 233))(G:H_ (Bx v (w+1) #[Zb 0,Zs,Zs,Zl false] 233))(V:H_ (Bx v g #[Zb x,(b,m,l),Zs,Zl f] 233))(HE:H_ (EL v p i W))(P3:H_ (PL v b m X))(C2:H_ (m<=l))(C:H_ (0<m->∀d,b=some d->w.heap.size+1<d.block/\d.block≠g))(B3:H_ (OS w v))(hg:w+1<g){u8 OX Pa Pb Pc Pd Pe Pf Pg Ph Pj Pl Pm Pn Po Pp Pq Ps Pu Pv Pw Px Py Pz PE PG PH PI PJ:V_}:
 aA Tryz.f226 (λe w'=>∃E,e=.returned (.tuple #[E,aJ (dR ⟨x,X,W,T⟩ n k)])/\H_ (im w.heap.size w' E (dropped ⟨x,X,W,T⟩ n k))/\H_ (OS w w')) 3 ⟨#[u,R,.int .i64 k,.pointer (some ⟨w.heap.size,0,none⟩),Q,O,.pointer (some ⟨(w.heap.size+1),0,none⟩),.nilIface,u8,.pointer (some ⟨g,0,none⟩),OX,Pa,Pb,Pc,Pd,Pe,Pf,Pg,Ph,Pj,Pl,Pm,Pn,Po,Pp,Pq,Ps,Pu,Pv,Pw,Px,Py,Pz,PE,PG,PH,PI,PJ],[]⟩ v:=by
 have M:w.heap.size+1<v:=G.lt;have L:g<v:=V.lt;have ab:¬g=w+1:=by omega
 refine bg (c:=.seq _ (.seq _ .ret)) rfl ?_;have⟨b0,b1,b2,b3⟩:=XB.four;go_wp2_with fail;refine(af v HE).mono ?_;rintro e w4 ⟨a4,k4,rfl,E4,F⟩;clear b0 b1 b2 b3;go_wp2_with fail;refine(nV k4 E4 Z.1 Z.2).mono ?_;rintro e w5 ⟨s,o,rfl,O5,B5⟩;have y:=Y (F.t B5);have K:=Y (V.later y L);have D:=Y (G.later y M);have U:=Y (O5.full (OJ _));have ae:g<w4:=OE L F.size;have ad:w.heap.size+1<w4:=OE M F.size;have⟨z,A⟩:=ZX (w5.setCell ⟨g,2,none⟩ (s,r.length,o));have N:H_ (w5.grownBy z (some g)):=(by rw[A];exact ak (au _) _ _);have ag:H_ (Bx z (w+1) #[Zb 0,Zs,Zs,Zl false] 233):=(by rw[A];exact D.other ⟨g,2,none⟩ _ (λe=>ab e.symm));have B6:=Y (show OS w z by rw[A];exact(B3.trans (y.mono (by omega))).setCell (by show w<=g;omega) _);have⟨n0,n1,n2,n3⟩:=K.four;have nz:=K.frozen;have⟨r0,r1,r2,r3⟩:=D.four;have rz:=D.frozen;have ah:¬w+1=g:=λe=>ab e.symm
 have H:=Y (gR (au z (J:=some (w+1))) (u:=Zb x) (R:=(b,m,l)) (Q:=(s,r.length,o)) (O:=Zl f));have EF:=Y (((U.1.grown N ae).grown H ad).lower (show w.heap.size<=_ by omega));have PF:=Y (((P3.later y).grownBy N (λh0 d t e=>(C h0 d t).2 (OG e).symm)).grownBy H (λh0 d t e=>by have h1:=(C h0 d t).1;have h2:w.heap.size+1=d.block:=OG e;omega));go_wp2;rw[<-A];have⟨t0,t1,t2,t3⟩:=(ag.ed (Zb x) (b,m,l) (s,r.length,o) (Zl f)).four;exact UM (v:=.tuple #[.agg #[.int .i64 x,.slice b m l,.slice s r.length o,.bool f],.nilIface]) (by simp[results,results226,go_sem,t0,t1,t2,t3]) rfl ⟨_,by rw[I.1]<;>rfl,by rw[I.2];exact⟨b,m,l,s,r.length,o,rfl,PF,λh0 d t=>by have h1:=(C h0 d t).1;omega,EF,C2,U.2⟩,(cN B6 (by omega))⟩
theorem Ha(f:PL v q m X)(he:EL v p i W)(ax:small X W)(aM:i<=h):
 C_ prog 226 #[.agg #[x,(q,m,c),(p,i,h),Zl T],y,t] v λA w'=>
  ∃I,A=Zr #[I,aJ (dR ⟨x,X,W,T⟩ y t)]/\H_ (im v w' I (dropped ⟨x,X,W,T⟩ y t))/\H_ (OS v w'):=by
 have⟨w0,av⟩:=ZX ((v.alloc (.cells #[x,(q,m,c),(p,i,h),Zl T] 233)).alloc (.cells #[Zi,Zs,Zs,Zl false] 233));have XB:=Y (show Bx w0 v #[x,(q,m,c),(p,i,h),Zl T] 233 by rw[av];exact(Bx.new v _ _).alloc _);have XR:=Y (show Bx w0 (v+1) #[Zi,Zs,Zs,Zl false] 233 by
  rw[av];have ai:=Bx.new (v.alloc (.cells #[x,(q,m,c),(p,i,h),Zl T] 233)) #[Zi,Zs,Zs,Zl false] 233;rw[dl] at ai;exact ai)
 have B0:=Y (show OS v w0 by rw[av];exact(af).alloc (by simp) _);have aH:=Y (f.later B0);have aF:=Y (he.later B0);have aK:=Y he.1;have aU:=Y f.1;have aO:=Y ax;have aL:i<=1000:=by have:=he.1;have:=ax.2.1;omega
 have am:m<=1000:=by have:=f.1;have:=ax.2.2;omega
 clear f he ax;go_enter func226,ntmps226;change aA Tryz.f226 (λA w'=>∃I,A=Zr #[I,aJ (dR ⟨x,X,W,T⟩ y t)]/\H_ (im v w' I (dropped ⟨x,X,W,T⟩ y t))/\H_ (OS v w')) 0 _ v;refine aj rfl ?_;intro K0 aT;go_wp2_with fail;rw[<-av];have⟨b0,b1,b2,b3⟩:=XB.four;refine Met.intro (aj rfl ?_);intro K1 aV;go_wp2_with fail;clear b0 b1 b2 b3;refine(ks x c h T y t aH aF).mono ?_;rintro A l ⟨rfl,ae⟩;have F:=Y (XB.later ae XB.lt);have ad:=Y (XR.later ae XR.lt);have B1:=Y (B0.t ae);have ak:=Y (aH.later ae);have ah:=Y (aF.later ae);clear ae;have L:v.heap.size+1<l:=ad.lt;have C:v<l.heap.size:=F.lt;have aS:¬v.heap.size+1=v:=by omega
 have⟨b0,b1,b2,b3⟩:=F.four;by_cases hb:dR ⟨x,X,W,T⟩ y t=0
 ·have HF:=Y hb;have HA:=Y (qW hb);have⟨ae,aP,aR⟩:=zE hb;rw[hb,aQ];clear hb;have aI:=Y (cb ae);have aN:x<=2147483647:=aI.1.2.2.2;have aD:=Y (show ∀A∈aX ⟨x,X,W,T⟩ t,A.aR.length<=1000 from λA he=>by have:=aO.1 A (n5 A he);omega);have aE:=Y (show(aX ⟨x,X,W,T⟩ t).length<=1000 by have h1:=nZ (b:=⟨x,X,W,T⟩) (k:=t);have h2:W.length=i:=aK.o;have h3:(aX ⟨x,X,W,T⟩ t).length<=W.length:=h1;omega);clear ae;obtain⟨bq,ar⟩:∃bq:Bool,H_ (bq=(T && decide (t≠x))):=⟨_,rfl⟩;have aB:=Y (show dj ⟨x,X,W,T⟩ t=⟨x,X,aX ⟨x,X,W,T⟩ t,bq⟩ by unfold dj;rw[ar]);obtain⟨KE,aG⟩:∃KE,H_ (KE=aX ⟨x,X,W,T⟩ t):=⟨_,rfl⟩;rw[<-aG] at aB aD aE;have al:=Y (TH aE aD);have KB:=λ(v:W_) (he:EL v p i W)=>lU q m c T rfl he aM aP aR aN aL
  have ag:=Y KB;clear KB;rw[<-aG] at ag;have HD:=Y (TH HF (HA.trans aB));cases T with
  |false=>
   obtain rfl:bq=false:=ar.o;go_wp2_with fail;refine Met.intro (aj rfl ?_);intro K9 az;refine wp_region_held_drew (S:=λw'=>w'.cell? v=Zb x/\w'.cell? (v,1)=(q,m,c)/\w'.cell? (v,3)=Zl false) (by kernel_rfl) ?_ (λD=>?_)
   ·exact⟨b0,b1,b3⟩
   refine tkw 0 ?_ (by assumption);refine tkw 1 ?_ (by assumption);refine tkw 2 ?_ (by assumption);refine tkw 3 ?_ (by assumption);refine tkw 5 ?_ (by assumption);refine tkw 6 ?_ (by assumption);refine wpAnyH_ready (rs:=[4,14]) (by kernel_rfl) (by simp) ?_;refine AllReadyH.cons (o:=_) rfl (λK d=>?_) (AllReadyH.cons (o:=_) rfl (λK d=>?_) AllReadyH.nil)
   ·go_simp;go_at_call 176;refine(fC c (ak.later (ce _ _).drew) am).mono ?_;rintro A r ⟨E,M,rfl,H,N,U,G⟩;have s:=Y (jS G);have ab:v<r.heap.size:=OE C s.size;have⟨c0,c1,c2,c3⟩:=(F.later s C).four;refine d.out _ _ ⟨c0,c1,c3⟩ (λD=>?_);clear d K;refine tkw 7 ?_ (by assumption);refine tkw 8 ?_ (by assumption);refine tkw 9 ?_ (by assumption);refine tkw 10 ?_ (by assumption);refine tkw 11 ?_ (by assumption);refine tkw 12 ?_ (by assumption);refine tkw 13 ?_ (by assumption);refine wpAnyH_ready (rs:=[14]) (by kernel_rfl) (by simp) ?_;refine AllReadyH.cons (o:=_) rfl (λK d=>?_) AllReadyH.nil;go_simp;refine d.out _ _ (by simp only[aq ab];exact⟨c0,c1,c3⟩) (λD=>?_);clear d K;refine wpAnyH_ready (rs:=[15]) (by kernel_rfl) (by simp) ?_;refine AllReadyH.cons (o:=_) rfl (λK d=>?_) AllReadyH.nil;go_simp;refine d.out _ _ (by simp only[aq ab];exact⟨c0,c1,c3⟩) (λD=>?_);clear d K;refine wpAnyH_done (by kernel_rfl) ?_ _;have z:=Y (show OS l (r.alloc (.cells #[x,(E,m,M),Zs,Zl false] 233)) from s.trans ((af (v:=r)).mono s.size));have ay:=s.size;go_wp2_with fail;exact Met.intro (dr3 HD ag al (F.later z C) (ad.later z L) (Bx.new r _ _) (ah.later z) (H.later (af (v:=r))) N (Y (λh0 e f=>⟨OE L (U e f),λA=>by have⟨b,off,ha,aC,_⟩:=H.2.2.2 h0;rw[ha] at f;cases f;change b=r at A;omega⟩)) (B1.t z) (by omega))
   ·go_simp;refine d.out _ _ (by simp only[an,aq C];exact⟨b0,b1,b3⟩) (λD=>?_);clear d K;refine wpAnyH_ready (rs:=[4]) (by kernel_rfl) (by simp) ?_;refine AllReadyH.cons (o:=_) rfl (λK d=>?_) AllReadyH.nil;go_simp;go_at_call 176;refine(fC c (ak.later (af).drew) am).mono ?_;rintro A r ⟨E,M,rfl,H,N,U,G⟩;have s:=Y (iq G);have ab:v<r.heap.size:=OE C s.size;have ap:¬l=v.heap.size:=(by omega);have V:=Y ((Bx.dC l #[Zi,Zs,Zs,Zl false] 233).later G (by show l<(l.alloc _).heap.size;simp));have⟨z0,z1,z2,z3⟩:=V.four;have zz:=V.frozen;have⟨c0,c1,c2,c3⟩:=(F.later s C).four;refine d.out _ _ ⟨c0,c1,c3⟩ (λD=>?_);clear d K;refine tkw 7 ?_ (by assumption);refine tkw 8 ?_ (by assumption);refine tkw 9 ?_ (by assumption);refine tkw 10 ?_ (by assumption);refine tkw 11 ?_ (by assumption);refine tkw 12 ?_ (by assumption);refine tkw 13 ?_ (by assumption);refine wpAnyH_ready (rs:=[15]) (by kernel_rfl) (by simp) ?_;refine AllReadyH.cons (o:=_) rfl (λK d=>?_) AllReadyH.nil;go_simp;refine d.out _ _ (by simp only[aw ap];exact⟨c0,c1,c3⟩) (λD=>?_);clear d K;refine wpAnyH_done (by kernel_rfl) ?_ _;have z:=Y (cN s (OJ l) (u:=Zb x) (R:=(E,m,M)) (Q:=Zs) (O:=Zl false));have A9:=Y (show ∀e,E=some e->l.heap.size<e.block from λe f=>by have h1:(l.alloc _).heap.size<=e.block:=U e f;rw[dl] at h1;omega);clear z0 z1 z2 z3 zz;go_wp2_with fail;exact Met.intro (dr3 HD ag al (F.later z C) (ad.later z L) (V.ed _ _ _ _) (ah.later z) (H.grownBy (gR (au r (J:=some l))) (λ_ e f A=>by have h1:=A9 e f;have h2:l.heap.size=e.block:=OG A;omega)) N (Y (λ_ e f=>by have h1:=A9 e f;exact⟨by omega,by omega⟩)) (B1.t z) L)
  |true=>
   by_cases ao:x=t
   ·obtain rfl:bq=false:=by rw[ar,ao];simp
    subst ao;go_wp2_with fail;refine Met.intro (aj rfl ?_);intro K9 az;refine wp_region_held_drew (S:=λw'=>w'.cell? v=Zb x/\w'.cell? (v,1)=(q,m,c)/\w'.cell? (v,3)=Zl true) (by kernel_rfl) ?_ (λD=>?_)
    ·exact⟨b0,b1,b3⟩
    refine tkw 0 ?_ (by assumption);refine tkw 1 ?_ (by assumption);refine tkw 2 ?_ (by assumption);refine tkw 3 ?_ (by assumption);refine tkw 5 ?_ (by assumption);refine tkw 6 ?_ (by assumption);refine wpAnyH_ready (rs:=[4,14]) (by kernel_rfl) (by simp) ?_;refine AllReadyH.cons (o:=_) rfl (λK d=>?_) (AllReadyH.cons (o:=_) rfl (λK d=>?_) AllReadyH.nil)
    ·go_simp;go_at_call 176;refine(fC c (ak.later (ce _ _).drew) am).mono ?_;rintro A r ⟨E,M,rfl,H,N,U,G⟩;have s:=Y (jS G);have ab:v<r.heap.size:=OE C s.size;have⟨c0,c1,c2,c3⟩:=(F.later s C).four;refine d.out _ _ ⟨c0,c1,c3⟩ (λD=>?_);clear d K;refine tkw 7 ?_ (by assumption);refine tkw 8 ?_ (by assumption);refine tkw 9 ?_ (by assumption);refine tkw 10 ?_ (by assumption);refine tkw 11 ?_ (by assumption);refine tkw 12 ?_ (by assumption);refine tkw 13 ?_ (by assumption);refine wpAnyH_ready (rs:=[14]) (by kernel_rfl) (by simp) ?_;refine AllReadyH.cons (o:=_) rfl (λK d=>?_) AllReadyH.nil;go_simp;refine d.out _ _ (by simp only[aq ab];exact⟨c0,c1,c3⟩) (λD=>?_);clear d K;refine wpAnyH_ready (rs:=[15]) (by kernel_rfl) (by simp) ?_;refine AllReadyH.cons (o:=_) rfl (λK d=>?_) AllReadyH.nil;go_simp;refine d.out _ _ (by simp only[aq ab];exact⟨c0,c1,c3⟩) (λD=>?_);clear d K;refine wpAnyH_done (by kernel_rfl) ?_ _;have z:=Y (show OS l (r.alloc (.cells #[x,(E,m,M),Zs,Zl false] 233)) from s.trans ((af (v:=r)).mono s.size));have ay:=s.size;go_wp2_with fail;exact Met.intro (dr3 HD ag al (F.later z C) (ad.later z L) (Bx.new r _ _) (ah.later z) (H.later (af (v:=r))) N (Y (λh0 e f=>⟨OE L (U e f),λA=>by have⟨b,off,ha,aC,_⟩:=H.2.2.2 h0;rw[ha] at f;cases f;change b=r at A;omega⟩)) (B1.t z) (by omega))
    ·go_simp;refine d.out _ _ (by simp only[an,aq C];exact⟨b0,b1,b3⟩) (λD=>?_);clear d K;refine wpAnyH_ready (rs:=[4]) (by kernel_rfl) (by simp) ?_;refine AllReadyH.cons (o:=_) rfl (λK d=>?_) AllReadyH.nil;go_simp;go_at_call 176;refine(fC c (ak.later (af).drew) am).mono ?_;rintro A r ⟨E,M,rfl,H,N,U,G⟩;have s:=Y (iq G);have ab:v<r.heap.size:=OE C s.size;have ap:¬l=v.heap.size:=(by omega);have V:=Y ((Bx.dC l #[Zi,Zs,Zs,Zl false] 233).later G (by show l<(l.alloc _).heap.size;simp));have⟨z0,z1,z2,z3⟩:=V.four;have zz:=V.frozen;have⟨c0,c1,c2,c3⟩:=(F.later s C).four;refine d.out _ _ ⟨c0,c1,c3⟩ (λD=>?_);clear d K;refine tkw 7 ?_ (by assumption);refine tkw 8 ?_ (by assumption);refine tkw 9 ?_ (by assumption);refine tkw 10 ?_ (by assumption);refine tkw 11 ?_ (by assumption);refine tkw 12 ?_ (by assumption);refine tkw 13 ?_ (by assumption);refine wpAnyH_ready (rs:=[15]) (by kernel_rfl) (by simp) ?_;refine AllReadyH.cons (o:=_) rfl (λK d=>?_) AllReadyH.nil;go_simp;refine d.out _ _ (by simp only[aw ap];exact⟨c0,c1,c3⟩) (λD=>?_);clear d K;refine wpAnyH_done (by kernel_rfl) ?_ _;have z:=Y (cN s (OJ l) (u:=Zb x) (R:=(E,m,M)) (Q:=Zs) (O:=Zl false));have A9:=Y (show ∀e,E=some e->l.heap.size<e.block from λe f=>by have h1:(l.alloc _).heap.size<=e.block:=U e f;rw[dl] at h1;omega);clear z0 z1 z2 z3 zz;go_wp2_with fail;exact Met.intro (dr3 HD ag al (F.later z C) (ad.later z L) (V.ed _ _ _ _) (ah.later z) (H.grownBy (gR (au r (J:=some l))) (λ_ e f A=>by have h1:=A9 e f;have h2:l.heap.size=e.block:=OG A;omega)) N (Y (λ_ e f=>by have h1:=A9 e f;exact⟨by omega,by omega⟩)) (B1.t z) L)
   ·obtain rfl:bq=true:=by rw[ar];simp;exact λai=>ao ai.symm
    have dk:(t !=x)=true:=by simp;exact λai=>ao ai.symm
    clear ao;go_wp2_with fail;refine Met.intro (aj rfl ?_);intro K9 az;refine wp_region_held_drew (S:=λw'=>w'.cell? v=Zb x/\w'.cell? (v,1)=(q,m,c)/\w'.cell? (v,3)=Zl true) (by kernel_rfl) ?_ (λD=>?_)
    ·exact⟨b0,b1,b3⟩
    refine tkw 0 ?_ (by assumption);refine tkw 1 ?_ (by assumption);refine tkw 2 ?_ (by assumption);refine tkw 3 ?_ (by assumption);refine tkw 5 ?_ (by assumption);refine tkw 6 ?_ (by assumption);refine wpAnyH_ready (rs:=[4,14]) (by kernel_rfl) (by simp) ?_;refine AllReadyH.cons (o:=_) rfl (λK d=>?_) (AllReadyH.cons (o:=_) rfl (λK d=>?_) AllReadyH.nil)
    ·go_simp;go_at_call 176;refine(fC c (ak.later (ce _ _).drew) am).mono ?_;rintro A r ⟨E,M,rfl,H,N,U,G⟩;have s:=Y (jS G);have ab:v<r.heap.size:=OE C s.size;have⟨c0,c1,c2,c3⟩:=(F.later s C).four;refine d.out _ _ ⟨c0,c1,c3⟩ (λD=>?_);clear d K;refine tkw 7 ?_ (by assumption);refine tkw 8 ?_ (by assumption);refine tkw 9 ?_ (by assumption);refine tkw 10 ?_ (by assumption);refine tkw 11 ?_ (by assumption);refine tkw 12 ?_ (by assumption);refine tkw 13 ?_ (by assumption);refine wpAnyH_ready (rs:=[14]) (by kernel_rfl) (by simp) ?_;refine AllReadyH.cons (o:=_) rfl (λK d=>?_) AllReadyH.nil;go_simp;refine d.out _ _ (by simp only[aq ab];exact⟨c0,c1,c3⟩) (λD=>?_);clear d K;refine wpAnyH_ready (rs:=[15]) (by kernel_rfl) (by simp) ?_;refine AllReadyH.cons (o:=_) rfl (λK d=>?_) AllReadyH.nil;go_simp;refine d.out _ _ (by simp only[aq ab];exact⟨c0,c1,c3⟩) (λD=>?_);clear d K;refine wpAnyH_done (by kernel_rfl) ?_ _;have z:=Y (show OS l (r.alloc (.cells #[x,(E,m,M),Zs,Zl true] 233)) from s.trans ((af (v:=r)).mono s.size));have ay:=s.size;go_wp2_with fail;exact Met.intro (dr3 HD ag al (F.later z C) (ad.later z L) (Bx.new r _ _) (ah.later z) (H.later (af (v:=r))) N (Y (λh0 e f=>⟨OE L (U e f),λA=>by have⟨b,off,ha,aC,_⟩:=H.2.2.2 h0;rw[ha] at f;cases f;change b=r at A;omega⟩)) (B1.t z) (by omega))
    ·go_simp;refine d.out _ _ (by simp only[an,aq C];exact⟨b0,b1,b3⟩) (λD=>?_);clear d K;refine wpAnyH_ready (rs:=[4]) (by kernel_rfl) (by simp) ?_;refine AllReadyH.cons (o:=_) rfl (λK d=>?_) AllReadyH.nil;go_simp;go_at_call 176;refine(fC c (ak.later (af).drew) am).mono ?_;rintro A r ⟨E,M,rfl,H,N,U,G⟩;have s:=Y (iq G);have ab:v<r.heap.size:=OE C s.size;have ap:¬l=v.heap.size:=(by omega);have V:=Y ((Bx.dC l #[Zi,Zs,Zs,Zl false] 233).later G (by show l<(l.alloc _).heap.size;simp));have⟨z0,z1,z2,z3⟩:=V.four;have zz:=V.frozen;have⟨c0,c1,c2,c3⟩:=(F.later s C).four;refine d.out _ _ ⟨c0,c1,c3⟩ (λD=>?_);clear d K;refine tkw 7 ?_ (by assumption);refine tkw 8 ?_ (by assumption);refine tkw 9 ?_ (by assumption);refine tkw 10 ?_ (by assumption);refine tkw 11 ?_ (by assumption);refine tkw 12 ?_ (by assumption);refine tkw 13 ?_ (by assumption);refine wpAnyH_ready (rs:=[15]) (by kernel_rfl) (by simp) ?_;refine AllReadyH.cons (o:=_) rfl (λK d=>?_) AllReadyH.nil;go_simp;refine d.out _ _ (by simp only[aw ap];exact⟨c0,c1,c3⟩) (λD=>?_);clear d K;refine wpAnyH_done (by kernel_rfl) ?_ _;have z:=Y (cN s (OJ l) (u:=Zb x) (R:=(E,m,M)) (Q:=Zs) (O:=Zl true));have A9:=Y (show ∀e,E=some e->l.heap.size<e.block from λe f=>by have h1:(l.alloc _).heap.size<=e.block:=U e f;rw[dl] at h1;omega);clear z0 z1 z2 z3 zz;go_wp2_with fail;exact Met.intro (dr3 HD ag al (F.later z C) (ad.later z L) (V.ed _ _ _ _) (ah.later z) (H.grownBy (gR (au r (J:=some l))) (λ_ e f A=>by have h1:=A9 e f;have h2:l.heap.size=e.block:=OG A;omega)) N (Y (λ_ e f=>by have h1:=A9 e f;exact⟨by omega,by omega⟩)) (B1.t z) L)
 ·rw[bJ hb];have HB:=Y hb;have HF:=Y (show dR ⟨x,X,W,T⟩ y t=dR ⟨x,X,W,T⟩ y t from rfl);clear hb;have HA:=Y (xY HF HB);have⟨r0,r1,r2,r3⟩:=ad.four;have rz:=ad.frozen;go_wp2_with fail;have⟨t0,t1,t2,t3⟩:=(ad.ed (Zb 0) Zs Zs (Zl false)).four;exact UM (v:=.tuple #[.agg #[Zi,Zs,Zs,.bool false],.iface 70 (.int .i64 (dR ⟨x,X,W,T⟩ y t))]) (by simp[results,results226,go_sem,t0,t1,t2,t3]) rfl ⟨_,by rw[bJ HB]<;>rfl,by rw[HA];exact im.zero _ _,(cN B1 (by omega))⟩
end
section
variable {n k:Int}
namespace Mx
def cU(b:Bu)(n k:Int):Bool:=decide (dR b n k=0) && decide (b.num-k<=(aX b k).length)
def bT(b:Bu)(n k:Int):Ep:=if cU b n k then⟨b.num,eS (aX b k)⟩ else⟨0,[]⟩
theorem FQ{b:Bu}(h:dR b n k≠0):cU b n k=false/\bT b n k=⟨0,[]⟩:=by
 have h1:cU b n k=false:=by unfold cU;simp[h]
 exact⟨h1,by unfold bT;rw[h1];rfl⟩
theorem FO{b:Bu}(h:((aX b k).length:Int)<b.num-k):cU b n k=false/\bT b n k=⟨0,[]⟩:=by
 have h1:cU b n k=false:=by unfold cU;rw[show decide (b.num-k<=(aX b k).length)=false by simp;omega];simp
 exact⟨h1,by unfold bT;rw[h1];rfl⟩
theorem Jh{b:Bu}(h:dR b n k=0)(h2:¬((aX b k).length:Int)<b.num-k):cU b n k=true/\bT b n k=⟨b.num,eS (aX b k)⟩:=by
 have h1:cU b n k=true:=by unfold cU;simp[h];omega
 exact⟨h1,by unfold bT;rw[h1];rfl⟩
def jy(es:List Ep):List (Option B8):=eC jm (es.flatMap (·.aR))
theorem yL(h:W[m]?=s):jy (W.take (m+1))=eC (jy (W.take m)) s.aR:=by
 unfold jy;rw[az _ _ h,wt,oH];simp
theorem iL(h:gy Z n=true)(c:n<=32):∀e∈aX Z k,∀q∈e.aR,0<=q.at_/\q.at_<32:=by
 intro e b q f;have⟨i,d⟩:=TN.1 (n5 e b);exact oD (rQ (kj (cJ h).2.2 d).1 c) q f
theorem KQ(h:∀e∈W,∀q∈e.aR,0<=q.at_/\q.at_<32):bj 0 (jy W)=eS W:=by
 unfold jy eS;exact tX (λq d=>by
  have⟨e,c,b⟩:=If.1 d;exact h e c q b)
end Mx
theorem FR(b:PL v q m X)(G:EL v p i W)(aj:small X W)(aM:i<=h):
 C_ prog 235 #[.agg #[Zb x,(q,m,c),(p,i,h),Zl T],Zb y,Zb t] v λl w'=>
  ∃(pa:Option A_) (pn pk:Nat),l=Zr #[.agg #[Zb (bT ⟨x,X,W,T⟩ y t).num,(pa,pn,pk)],Zl (cU ⟨x,X,W,T⟩ y t),aJ (dR ⟨x,X,W,T⟩ y t)]/\H_ (PL w' pa pn (bT ⟨x,X,W,T⟩ y t).aR/\∀d,pa=some d->v.heap.size<=d.block)/\H_ (OS v w'):=by
 obtain⟨L,ah⟩:∃L:W_,H_ (L=(v.alloc (.cells #[Zb x,(q,m,c),(p,i,h),Zl T] 233)).alloc (.cells #[Zb 0,Zs] 299)):=⟨_,rfl⟩;have XB:=Y (show Bx L v #[Zb x,(q,m,c),(p,i,h),Zl T] 233 by rw[ah.o];exact(Bx.new v _ _).alloc _);have XR:=Y (show Bx L (v+1) #[Zb 0,Zs] 299 by
  rw[ah.o];have ab:=Bx.new (v.alloc (.cells #[Zb x,(q,m,c),(p,i,h),Zl T] 233)) #[Zb 0,Zs] 299;rw[dl] at ab;exact ab)
 have B0:=Y (show OS v L by rw[ah.o];exact(af).alloc (by simp) _);have aE:=Y (b.later B0.o);have aF:=Y (G.later B0.o);have a6:=Y G.1;have a9:=Y b.1;have bb:=Y aj;have aV:i<=1000:=by have:=G.1;have:=aj.2.1;omega
 have ba:m<=1000:=by have:=b.1;have:=aj.2.2;omega
 clear b G aj;go_enter func235,ntmps235;go_wp2_with fail;rw[<-ah.o];refine(ks x c h T y t aE.o aF.o).mono ?_;rintro l w1 ⟨rfl,o⟩;have al:=Y (XB.o.later o XB.o.lt);have V:=Y (XR.o.later o XR.o.lt);have B1:=Y (B0.o.trans (o.mono B0.o.size));have bc:=Y (aE.o.later o);have aK:=Y (aF.o.later o);clear o;have a4:v.heap.size+1<w1:=V.o.lt;have aR:v.heap.size<w1:=al.o.lt;have aH:¬v.heap.size+1=v:=by omega
 have⟨E,b1,O,M⟩:=al.o.four;have⟨K,U⟩:=V.o.pair;have rz:=V.o.frozen;by_cases C:dR ⟨x,X,W,T⟩ y t=0
 ·have HF:=Y C;have⟨o,aW,aZ⟩:=zE C;rw[C,aQ];clear C;have ar:=Y (cb o);have aO:x<=2147483647:=ar.o.1.2.2.2;have ap:=Y (show(aX ⟨x,X,W,T⟩ t).length<=1000 by have h1:=nZ (b:=⟨x,X,W,T⟩) (k:=t);have h2:W.length=i:=a6.o;have h3:(aX ⟨x,X,W,T⟩ t).length<=W.length:=h1;omega);have av:=Y (iL (k:=t) ar.o.2.2 ar.o.1.2.1);have aC:=Y (KQ av.o);clear o;have KB:=λ(v:W_) (G:EL v p i W)=>lU q m c T rfl G aM aW aZ aO aV
  have ay:=Y KB;clear KB;have aq:=Y (FO (b:=⟨x,X,W,T⟩) (n:=y) (k:=t));have ax:=Y (Jh (b:=⟨x,X,W,T⟩) (n:=y) (k:=t) HF.o);obtain⟨z,aP⟩:∃z,H_ (z=aX ⟨x,X,W,T⟩ t):=⟨_,rfl⟩;rw[<-aP.o] at ay ap av aC aq ax;obtain⟨r,aB⟩:∃r:Nat,H_ (r=z.length):=⟨_,rfl⟩;rw[<-aB.o] at ay ap aq ax;go_wp2_with fail;refine(ay.o w1 aK.o).mono ?_;rintro l f ⟨a2,k2,rfl,E2,B2⟩;have C2:=Y (B1.o.trans (B2.o.mono B1.o.size));have ak:=Y (al.o.later B2.o aR);have ad:=Y (V.o.later B2.o a4);have aU:v.heap.size+1<f:=ad.o.lt;have a7:v.heap.size<f:=ak.o.lt;have a8:r<=1000:=ap.o;clear E b1 O M K U rz;have⟨E,b1,O,M⟩:=ak.o.four;have⟨K,U⟩:=ad.o.pair;have rz:=ad.o.frozen;by_cases ag:(r:Int)<x-t
  ·have df:decide ((r:Int)<x-t)=true:=by simpa using ag
   have e:=Y (aq.o ag);go_wp2_with fail;have⟨I,H⟩:=(ad.o.gT (Zb 0) Zs).pair;exact UM (v:=.tuple #[.agg #[.int .i64 0,.slice none 0 0],.bool false,.nilIface]) (by simp[results,results235,go_sem,I,H]) rfl ⟨none,0,0,by rw[e.o.1,e.o.2,HF.o]<;>rfl,by rw[e.o.2];exact⟨PL.nil _,λd b=>by cases b⟩,Y (eK C2.o (by omega))⟩
  ·have df:decide ((r:Int)<x-t)=false:=by simpa using ag
   have e:=Y (ax.o (by omega));clear ag;have hz:=pI;go_wp2_with fail;clear hz;obtain⟨W3,az⟩:∃W3:W_,H_ (W3=f.alloc (.cells Zc 293)):=⟨_,rfl⟩;rw[<-az.o];have L3:=Y (show LB W3 f jm by rw[az.o];exact LB.new f);have D3:=beA az;clear E b1 O M K U rz;go_loopw [35] (λaA wr=>∃j:Nat,j<=r/\aA=Zb (j:Int)/\H_ (LB wr f (jy (z.take j)))/\H_ (OS f wr)) (λaA _=>r-(intOf aA).toNat)
   case atStart=>exact⟨0,by omega,rfl,L3,D3⟩
   case round=>
    obtain⟨j,hj,rfl,hL,A⟩:=hrel;by_cases a0:j<r
    ·have⟨D,aD,l,ai,ni,ci,a1,hbl,hx,e0,e1,b,hc⟩:=E2.o.at_ j a0;subst a1;have⟨aL,ps⟩:=l;have f0:=(A.o.cell (p:=⟨D,aD+j*2,none⟩) hbl).trans e0;have f1:=(A.o.cell (p:=⟨D,aD+j*2+1,none⟩) hbl).trans e1;have HP:=Y b;have HX:=Y hx;have aN:=Y (av.o _ (OR hx));dsimp only at f0;clear hx b e0 e1;obtain⟨W4,aG⟩:∃W4:W_,H_ (W4=wr.alloc (.cells #[Zb aL,(ai,ni,ci)] 299)):=⟨_,rfl⟩;have D4:=beA aG;have C4:=Y (A.o.trans (D4.o.mono A.o.size));have L4:=Y (hL.o.later D4.o hL.o.2.lt);have aI:f.heap.size<W4:=L4.o.2.lt;go_wp2_with fail;rw[<-aG.o];refine(qw ci L4.o (HP.o.later C4.o) (HP.o.off (OJ _)) aN.o).mono ?_;rintro l N ⟨rfl,L5,G5⟩;have C5:=Y (C4.o.trans (lA G5.o (TP aI)));have LN:=Y (show LB N f (jy (z.take (j+1))) by rw[yL HX.o];exact L5.o);clear f0 f1;go_wp2_with fail;go_roundw
     case rel=>exact⟨j+1,by omega,by go_num,LN,C5⟩
     case measure=>simp[intOf];omega
    ·have LF:=Y (show LB wr f (jy z) by
      have ab:=hL.o;rw[OL (by rw[<-aB.o];omega)] at ab;exact ab)
     have ao:=Y (ak.o.later A.o a7);have ae:=Y (ad.o.later A.o aU);have aS:v.heap.size<wr:=ao.o.lt;have am:v.heap.size+1<wr:=ae.o.lt;have⟨E,b1,O,M⟩:=ao.o.four;go_wp2_with fail;go_region_held3 (λw'=>w'.cell? ⟨v,0,none⟩=Zb x)
      (first
        |with_reducible exact c0
        |(simp only[an];with_reducible exact E)
        |(simp only[aw aH];with_reducible exact c0))
      (first
        |(go_at_call 172;refine(xd LF.o.drew).mono ?_;rintro l N ⟨F,Q,rfl,O5,B5⟩;have D5:=Y (jS B5.o);have c0:=(ao.o.later D5.o aS).cell 0;simp only[OB,Oz] at c0;have⟨K,U⟩:=(ae.o.later D5.o am).pair;have rz:=(ae.o.later D5.o am).frozen))
     all_goals
      clear E b1 O M c0 K U rz;rw[aC.o] at O5 ⊢;obtain⟨s,aT⟩:∃s:Nat,H_ (s=(eS z).length):=⟨_,rfl⟩;rw[<-aT.o] at O5 ⊢;have F5:=Y (O5.o.full);have a3:=Y (ae.o.later D5.o am);have BF:=Y (show OS v (fq N (v+1) (Zb x) (F,s,Q)) from eK (C2.o.trans ((A.o.trans (D5.o.mono A.o.size)).mono (by omega))) (by omega));have PF:=Y (show PL (fq N (v+1) (Zb x) (F,s,Q)) F s (eS z) from F5.o.1.grownBy (kf (au N (J:=some (v+1)))) (λ_ d b l=>by have h1:wr.heap.size<=d.block:=F5.o.2.2 d b;have h2:v.heap.size+1=d.block:=OG l;omega));go_wp2_with fail;have⟨I,H⟩:=(a3.o.gT (Zb x) (F,s,Q)).pair;exact UM (v:=.tuple #[.agg #[.int .i64 x,.slice F s Q],.bool true,.nilIface]) (by simp[results,results235,go_sem,I,H]) rfl ⟨F,s,Q,by rw[e.o.1,e.o.2,HF.o]<;>rfl,by rw[e.o.2];exact⟨PF.o,λd b=>by have h1:wr.heap.size<=d.block:=F5.o.2.2 d b;omega⟩,BF⟩
 ·rw[bJ C];have HB:=Y C;clear C;have e:=Y (FQ (b:=⟨x,X,W,T⟩) HB.o);go_wp2_with fail;have⟨I,H⟩:=(V.o.gT (Zb 0) Zs).pair;exact UM (v:=.tuple #[.agg #[.int .i64 0,.slice none 0 0],.bool false,.iface 70 (.int .i64 (dR ⟨x,X,W,T⟩ y t))]) (by simp[results,results235,go_sem,I,H]) rfl ⟨none,0,0,by rw[e.o.1,e.o.2,bJ HB.o]<;>rfl,by rw[e.o.2];exact⟨PL.nil _,λd b=>by cases b⟩,Y (eK B1.o (by omega))⟩
end
section
variable {j k n:Int}
namespace Mx
def wN(j:Int)(l:List Pt):Nat->Int
 |0=>j
 |k+1=>(l.getD k dP).at_+1
theorem uy(l:List Pt)(k:Nat):wN 0 l k=cW l k:=by cases k<;>rfl
theorem Ld(h:Rk j X)(b:X[m]?=V):wN j X m<=V.at_:=by
 induction X generalizing j m with
 |nil=>simp at b
 |cons q X c=>
  cases m with
  |zero=>
   simp at b;subst b;exact h.1
  |succ m=>
   have h1:=c h.2.2 (m:=m) (by simpa using b);cases m with
   |zero=>exact h1
   |succ m=>exact h1
theorem zP(h:Rk 0 X)(d:∀q∈X,q.at_<n):bK n X=true:=by
 refine kZ (λk c=>?_);have b:X[k]?=X[k]:=Ox c;have h1:=Ld h b;rw[uy] at h1;unfold fx;rw[Oy,b];simp only[Tw,LT,UP];exact⟨h1,d _ (TJ c)⟩
theorem zO(h:bK n X=true):∀q∈X,q.at_<n:=by
 intro q c;have⟨k,b⟩:=TN.1 c;exact(mX h b).2
theorem wY(h:o∈dS X V):o=V\/o∈X:=by
 induction X with
 |nil=>
  simp[dS] at h;exact .inl h
 |cons x X b=>
  rw[dS] at h;split at h
  ·rcases ro.1 h with h|h
   ·exact .inr (by rw[h];exact li ..)
   ·rcases b h with h|h
    ·exact .inl h
    ·exact .inr (gt _ h)
  ·split at h
   ·rcases ro.1 h with h|h
    ·exact .inl h
    ·exact .inr (gt _ h)
   ·rcases ro.1 h with h|h
    ·exact .inl h
    ·exact .inr h
theorem IZ(h:bK n X=true)(b:n<=32)(h0:0<=V.at_)(h1:V.at_<n):bK n (dS X V)=true:=
 zP (oT (rQ h b) h0 (by omega)) (λq c=>by
  rcases wY c with h2|h2
  ·rw[h2]
   exact h1
  ·exact zO h q h2)
theorem Fy(h:Rk j X)(d:j<=32):(X.length:Int)<=32-j:=by
 induction X generalizing j with
 |nil=>simp;omega
 |cons p X b=>
  have h1:=h.1;have h2:=h.2.1;have c:=b h.2.2 (by omega);rw[fd];push_cast;omega
theorem xv(h:bK n X=true)(b:n<=32):X.length<=32:=by
 have:=Fy (rQ h b) (by omega);omega
theorem lR{b:Bu}(h1:b.be=true->b.se=[])(h2:bK n b.op=true)(c:fm b.se b.num n=true):gy b n=true:=by
 unfold gy;rw[h2,c];cases hb:b.be with
 |false=>rfl
 |true=>rw[h1 hb];rfl
theorem lL(c:1<=n/\n<=32)(h0:0<=Z.num)(h1:Z.num<=2147483647)(h2:Z.se.length<=4)(b:gy Z n=true):aY Z n=0:=CK (by omega) (by omega) b
theorem ui(h:aY Z n=0):Z.op.length<=32/\Z.se.length<=4/\∀e∈Z.se,e.aR.length<=32:=by
 have⟨h1,h2,d⟩:=cb h;have⟨_,i,f⟩:=cJ d;refine⟨xv i h1.2.1,h2,λe b=>?_⟩;have⟨l,c⟩:=TN.1 b;exact xv (kj f c).1 h1.2.1
theorem JN(h:aY Z n=0)(h0:0<=V.at_)(h1:V.at_<n):aY (gV Z V) n=0:=by
 have⟨b,i,c⟩:=cb h;have⟨e,f,d⟩:=cJ c;exact lL ⟨b.1,b.2.1⟩ b.2.2.1 b.2.2.2 i (lR (b:=gV Z V) e (IZ f b.2.1 h0 h1) d)
theorem Hk(h:fm W x n=true)(d:bK n X=true):fm (W++[⟨x+1,X⟩]) (x+1) n=true:=by
 have f:=ku h;refine kt (by rw[OC,pu];push_cast;omega) (λi e=>?_);rw[OC,pu] at e;unfold jY;by_cases c:i<W.length
 ·have b:W[i]?=W[i]:=Ox c;have h1:=kj h b;rw[Oy,OO c,b,OC,pu];simp only[Tw,LT,UP];exact⟨h1.1,by rw[h1.2];push_cast;omega⟩
 ·obtain rfl:i=W.length:=by omega
  rw[Oy,ON (OJ _),TK,OC,pu];simp only[Oz,Tw,LT,UP];exact⟨d,by push_cast;omega⟩
theorem Hj(h:fm W x n=true)(k:Nat):fm (W.drop k) x n=true:=by
 have d:=ku h;refine kt (by rw[ge];omega) (λi c=>?_);rw[ge] at c;have b:W[k+i]?=some (W[k+i]'(by omega)):=Ox (by omega);have h1:=kj h b;unfold jY;rw[Oy,Tt,b,ge];simp only[Tw,LT,UP];exact⟨h1.1,by rw[h1.2];omega⟩
theorem Jb(h:aY Z n=0)(r:Z.num≠2147483647):aY (cA Z) n=0:=by
 have⟨b,o,i⟩:=cb h;have⟨m,d,c⟩:=cJ i;have l:=ku c;unfold cA;cases hf:ew Z with
 |true=>exact lL ⟨b.1,b.2.1⟩ (by show 0<=Z.num+1;omega) (by show Z.num+1<=_;omega) (ol _) (lR (λ_=>rfl) rfl (kt (by show(0:Int)<=Z.num+1;omega) (λp e=>absurd e (by simp))))
 |false=>
  have q:Z.se.length≠4:=by
   unfold ew at hf;simp at hf;exact hf.2
  exact lL ⟨b.1,b.2.1⟩ (by show 0<=Z.num+1;omega) (by show Z.num+1<=_;omega) (by show(Z.se++[_]).length<=4;rw[OC,pu];omega) (lR (λf=>by cases f) rfl (Hk c d))
theorem GZ(h:aY Z n=0):aY (dj Z k) n=0:=by
 have⟨b,l,d⟩:=cb h;have⟨f,i,e⟩:=cJ d;refine lL ⟨b.1,b.2.1⟩ b.2.2.1 b.2.2.2 (OP (nZ (b:=Z) (k:=k)) l) (lR (λc=>?_) i (Hj e _));unfold dj at c;simp only[LT] at c;show aX Z k=[];unfold aX;rw[f c.1,List.drop_nil]
def ey(l:List B8)(p:Pt):List B8:=l.set p.at_.toNat p.d
def lay(l:List B8)(ps:List Pt):List B8:=ps.foldl ey l
theorem pU(b:List Pt)(l:List B8)(i:Nat)(d:B8)(h:∀q∈b,q.at_.toNat≠i):lay (l.set i d) b=(lay l b).set i d:=by
 induction b generalizing l with
 |nil=>rfl
 |cons q b f=>
  have h1:=h q (li ..);have h2:=f (l.set q.at_.toNat q.d) (λx c=>h x (gt _ c));unfold lay at h2 ⊢;rw[RK,RK];unfold ey at h2 ⊢;rw[List.set_comm _ _ (λe=>h1 e.symm)];exact h2
theorem wg(i:0<=k)(h:Rk k X)(h0:0<=V.at_)(l:List B8):lay l (dS X V)=ey (lay l X) V:=by
 induction X generalizing k l with
 |nil=>rfl
 |cons q X f=>
  have h1:=h.1;rw[dS];split
  ·exact f (by omega) h.2.2 _
  ·have c:∀x∈X,x.at_.toNat≠V.at_.toNat:=λx b=>by have:=(oD h.2.2 x b).1;omega
   split
   ·next d=>
    have h2:=pU X (l.set q.at_.toNat q.d) V.at_.toNat V.d c;have e:(l.set q.at_.toNat q.d).set V.at_.toNat V.d=ey l V:=by unfold ey;rw[d,List.set_set]
    rw[e] at h2;exact h2
   ·have h2:=pU (q::X) l V.at_.toNat V.d (λx b=>by
     rcases ro.1 b with rfl|b
     ·omega
     ·exact c x b)
    exact h2
theorem Hw(b c:List Pt)(l:List B8)(e:Rk 0 c)(h:∀q∈b,0<=q.at_/\q.at_<32):lay l (b.foldl dS c)=lay (lay l c) b:=by
 induction b generalizing c with
 |nil=>rfl
 |cons p b f=>
  have d:=h p (li ..);rw[RK,f (dS c p) (oT e d.1 d.2) (λq i=>h q (gt _ i)),wg (Ug 0) e d.1];rfl
theorem AN(l:List B8)(h:∀e∈W,∀q∈e.aR,0<=q.at_/\q.at_<32):lay l (eS W)=W.foldl (λl e=>lay l e.aR) l:=by
 unfold eS;rw[Hw _ [] l trivial (λq i=>by
  have⟨e,c,b⟩:=If.1 i;exact h e c q b)]
 show lay l (W.flatMap (·.aR))=_
 induction W generalizing l with
 |nil=>rfl
 |cons e W f=>
  rw[Id,RK];unfold lay;rw[dT];exact f _ (λx d=>h x (gt _ d))
end Mx
end
section
variable {n k:Int}
namespace Mx
structure iF (n:Int) (b:Bu) (ae:List (List B8)) (now:List B8):Prop where
 may:aY b n=0
 len:(ae.length:Int)=b.num+1
 cur:∃l,ae[b.num.toNat]?=some l/\now=lay l b.op
 eps:∀(i:Nat) (e:Ep),b.se[i]?=some e->∃x y,ae[(e.num-1).toNat]?=some x/\ae[e.num.toNat]?=some y/\y=lay x e.aR
theorem rA(c:1<=n/\n<=32){h:Nat}(f:U.length=h+1)(l:h<=2147483647)(hs:U[h]?=M):iF n ⟨(h:Int),[],[],false⟩ U M where
 may:=lL c (by show(0:Int)<=(h:Int);omega) (by show(h:Int)<=_;omega) (ol _) (lR (λh=>by cases h) rfl (kt (by show((0:Nat):Int)<=(h:Int);omega) (λi d=>absurd d (by show ¬i<0;omega))))
 len:=by show(U.length:Int)=(h:Int)+1;omega
 cur:=⟨M,by show U[((h:Int)).toNat]?=_;rw[m6];exact hs,rfl⟩
 eps:=λi e b=>by simp at b
theorem H4(h:iF n Z U M)(h0:0<=V.at_)(h1:V.at_<n):iF n (gV Z V) U (ey M V) where
 may:=JN h.may h0 h1
 len:=h.len
 cur:=by
  have⟨l,c,d⟩:=h.cur;have⟨e,_,b⟩:=cb h.may;refine⟨l,c,?_⟩;rw[d];exact(wg (Ug 0) (rQ (cJ b).2.1 e.2.1) h0 l).symm
 eps:=h.eps
theorem DQ(h:iF n Z U M)(z:Z.num≠2147483647):iF n (cA Z) (U++[M]) M where
 may:=Jb h.may z
 len:=by
  have:=h.len;rw[OC,pu];show _=Z.num+1+1
  push_cast
  omega
 cur:=by
  have⟨A,_,_⟩:=cb h.may;have o:=h.len;refine⟨M,?_,rfl⟩;show(U++[M])[(Z.num+1).toNat]?=M
  rw[show(Z.num+1).toNat=U.length by omega,ON (OJ _),TK];rfl
 eps:=by
  have⟨A,_,u⟩:=cb h.may;have p:=(cJ u).2.2;have o:=h.len;have E:=ku p;intro i e m;have b:(if ew Z then [] else Z.se++[⟨Z.num+1,Z.op⟩]:List Ep)[i]?=e:=m;cases hf:ew Z with
  |true=>rw[hf] at b;simp at b
  |false=>
   rw[hf] at b;change (Z.se++[(⟨Z.num+1,Z.op⟩:Ep)])[i]?=e at b;by_cases t:i<Z.se.length
   ·rw[OO t] at b
    have⟨x,y,f,c,C⟩:=h.eps i e b;have q:=(OI.1 f).1;have r:=(OI.1 c).1;exact⟨x,y,by rw[OO q];exact f,by rw[OO r];exact c,C⟩
   ·have D:=(OI.1 b).1
    rw[OC,pu] at D;obtain rfl:i=Z.se.length:=by omega
    rw[ON (OJ _),TK] at b;simp at b;subst b;have⟨l,d,v⟩:=h.cur;have s:=(OI.1 d).1;refine⟨l,M,?_,?_,v⟩
    ·show(U++[M])[(Z.num+1-1).toNat]?=l
     rw[show(Z.num+1-1).toNat=Z.num.toNat by omega,OO s];exact d
    ·show(U++[M])[(Z.num+1).toNat]?=M
     rw[show(Z.num+1).toNat=U.length by omega,ON (OJ _),TK];rfl
theorem rB(i:iF n Z U M)(K:0<=k)(L:k<=Z.num)(hs:cU Z n k=true)(F:U[k.toNat]?=e):U[Z.num.toNat]?=some (lay e (bT Z n k).aR):=by
 have⟨H,_,l⟩:=cb i.may;have u:=(cJ l).2.2;have v:=iL (k:=k) l H.2.1;have o:(bT Z n k).aR=eS (aX Z k):=by unfold bT;rw[hs];rfl
 have f:Z.num-k<=(aX Z k).length:=by
  unfold cU at hs;simp only[LT,UP] at hs;exact hs.2
 rw[o,AN e v];have G:(aX Z k).length=(Z.num-k).toNat:=by
  unfold aX at f ⊢;rw[ge] at f ⊢;unfold many at f ⊢;omega
 have r:∀m,m<=(aX Z k).length->U[k.toNat+m]?=some (((aX Z k).take m).foldl (λC E=>lay C E.aR) e):=by
  intro m;induction m with
  |zero=>
   intro _;rw[wn];exact F
  |succ m I=>
   intro O;have h1:=I (by omega);have h:(aX Z k)[m]?=some ((aX Z k)[m]'(by omega)):=Ox (by omega);have c:=h;unfold aX at c;rw[Tt] at c;have x:=(kj u c).2;have⟨A,z,t,p,q⟩:=i.eps _ _ c;have N:(aX Z k).length=many Z k:=by
    unfold aX;rw[ge];unfold many;omega
   have J:many Z k<=Z.se.length:=by unfold many;omega
   have y:((aX Z k)[m]'(by omega)).num=k+m+1:=by
    have s:((aX Z k)[m]'(by omega)).num=Z.num-Z.se.length+1+((Z.se.length-many Z k+m:Nat):Int):=x;rw[s];omega
   rw[az _ _ h,dT];have d:U[((aX Z k)[m]'(by omega)).num.toNat]?=z:=p;have b:U[(((aX Z k)[m]'(by omega)).num-1).toNat]?=A:=t;rw[y] at d b;rw[show(k+m+1-1:Int).toNat=k.toNat+m by omega] at b;rw[show(k+m+1:Int).toNat=k.toNat+(m+1) by omega] at d;rw[h1] at b;have D:=OG b;rw[d,q,<-D];rfl
 have:=r (aX Z k).length (OJ _);rw[OL (OJ _),G] at this;rw[<-this];congr 1;omega
theorem DP(h:iF n Z U M):iF n (dj Z k) U M where
 may:=GZ h.may
 len:=h.len
 cur:=h.cur
 eps:=λi e c=>by
  have b:(aX Z k)[i]?=e:=c;unfold aX at b;rw[Tt] at b;exact h.eps _ e b
theorem yJ(b:aY Z n=0)(e:0<=k)(d:k<=Z.num):cU Z n k=true↔Z.num-(Z.se.length:Int)<=k:=by
 have f:=ku (cJ (cb b).2.2).2.2;have c:dR Z n k=0:=rF b (by omega);unfold cU;rw[c];simp only[decide_true,Bool.true_and,UP];unfold aX many;rw[ge];omega
