import Derived.Test.YtgklbhiamepfoaaGreatDoorZ12
import Derived.Test.YtgklbhiamepfoaaGreatDoorZ15
import Derived.Test.YtgklbhiamepfoaaGreatDoorZ18
set_option maxHeartbeats 16000000
set_option maxRecDepth 100000
namespace Go.Proofs.YtgklbhiamepfoaaGreatDoor
open Go renaming World->W_,Value->V_,Calls->C_,Addr->A_
open Go.RowKit renaming Hid->H_
open Go.Proofs.Tryz Mx
variable {k c j i X W V U S Q P:Nat}{l M L C:List B8}{v u:W_}{x y z:Int}{Z D:List Pt}{q p T:Option A_}{d:B8}{R:TypeId}{O N K A t s r o:V_}{J:List V_}{I:Array V_}{H:Option Nat}{G:Pt}{F:Nat->W_->Prop}{E:W_->Prop}
open Go.RowKit
section
variable {w:W_}{n g B m:Nat}{a1 a2:Option A_}
structure DK (B:Nat) (w:W_) (a1:Option A_) (n:Nat) (ls:List B8) (a2:Option A_) (m:Nat) (ps:List Pt):Prop where
 bl:BL w a1 n ls
 pl:PL w a2 m ps
 b1:0<n->∀p,a1=some p->B<=p.block
 b2:0<m->∀p,a2=some p->B<=p.block
theorem DK.later{B:Nat}{w w':W_}{a1:Option A_}{n:Nat}{d:List B8}{a2:Option A_}{m:Nat}{c:List Pt}(h:DK B w a1 n d a2 m c)(e:OS w w'):DK B w' a1 n d a2 m c:=⟨h.bl.later e,h.pl.later e,h.b1,h.b2⟩
theorem dt.eW(h:dt w q n k J)(d:w.grownBy v (some g))(o:0<n->∀p,q=some p->p.block≠g):dt v q n k J:=by
 refine⟨h.1,h.2.1,λc=>?_⟩;have⟨b,f,e,i,hc⟩:=h.2.2 c;refine⟨b,f,e,OE i d.size,λj u r=>?_⟩;exact d.cell (a:=⟨b,f+j,none⟩) (hc j u r) (λl=>o c _ e (OG l))
theorem DK.grown(h:DK B w a1 n l a2 m Z)(e:w.grownBy v (some g))(f:g<B):DK B v a1 n l a2 m Z:=
 ⟨⟨h.bl.1,h.bl.2.eW e (λc p d=>by have:=h.b1 c p d;omega)⟩,⟨h.pl.1,h.pl.2.eW e (λc p d=>by have:=h.b2 c p d;omega)⟩,h.b1,h.b2⟩
theorem DK.low(h:DK B w a1 n l a2 m Z)(e:k<=B):DK k w a1 n l a2 m Z:=⟨h.bl,h.pl,λc p d=>OP e (h.b1 c p d),λc p d=>OP e (h.b2 c p d)⟩
theorem rZ(f i:Nat)(left:Int)(hs:BL v q k l)(e:PL v p c Z)(hn:k<=1000)(hm:c<=1000):
 C_ prog 201 #[.agg #[(q,k,f),(p,c,i),left]] v λy u=>∃a1 c1 a2 c2,y=Zv (.agg #[.slice a1 k c1,.slice a2 c c2,left])/\H_ (DK v u a1 k l a2 c Z)/\H_ (OS v u):=by
 have⟨d,j⟩:=ZX ((v.alloc (.cells #[(q,k,f),(p,c,i),left] 272)).alloc (.cells #[Zs,Zs,Zi] 272));have o:H_ (Bx d v #[(q,k,f),(p,c,i),left] 272):=(by rw[j];exact(Bx.new v _ _).alloc _);have K:=Y (show Bx d (v+1) #[Zs,Zs,Zi] 272 by
  rw[j];have h:=Bx.new (v.alloc (.cells #[(q,k,f),(p,c,i),left] 272)) #[Zs,Zs,Zi] 272;rw[dl] at h;exact h)
 have C:H_ (OS v d):=(by rw[j];exact(af).alloc (by simp) _);have I:=Y (show d=v.heap.size+2 by rw[j];simp);have HS:=Y (hs.later C);have HP:=Y (e.later C);have HL:=Y hs.1;have HM:=Y e.1;go_enter func201,ntmps201;change aA Tryz.f201 _ 0 _ v;apply aj rfl;intro ak hK;go_wp2;rw[<-j];refine Met.intro (bg (c:=.seq _ .ret) rfl ?_);have⟨x0,x1,x2⟩:=o.three;have ab:¬v.heap.size+1=v:=by omega
 go_upto_region 1 with fail;go_region_held3 (λu=>u.cell? v=(q,k,f)/\u.cell? (v,1)=(p,c,i)/\u.cell? (v,2)=Zb left)
  (first|((try simp only[an,aw ab]);first|with_reducible exact⟨x0,x1,x2⟩|with_reducible exact⟨y0,y1,y2⟩|with_reducible exact⟨R,S,z2⟩))
  (first|(go_at_call 199;(with_reducible refine(jO f (HS.o.later (ce _ _).drew) (by omega)).mono ?_);rintro y L ⟨v1,rfl,G,Q⟩;have r:=Y (show OS d L from(ce _ _).drew.trans Q);have⟨a1,c1,M,x,O⟩:=G.bl;rw[HL] at M x;subst M;have ae:=Y x;have ah:=Y O;have⟨y0,y1,y2⟩:=(o.later r o.lt).three;clear G Q x O)|(go_at_call 176;(with_reducible refine(mo i (HP.o.later r.o) (by omega)).mono ?_);rintro y F ⟨v2,rfl,E,t⟩;have A:=Y (r.t t);have ag:=Y (ae.later t);have⟨a2,c2,N,D,P⟩:=E.pl;rw[HM] at N D;subst N;have ad:=Y D;have T:=Y P;have⟨R,S,z2⟩:=(o.later A o.lt).three;have z:=Y (K.later A K.lt);have⟨r0,r1,r2⟩:=z.three;have rz:=z.frozen;have ai:d.heap.size<=L:=r.size;clear E t D P))
 all_goals
  go_wp2;have KH:=Y (show DK (v+2) F a1 k l a2 c Z from⟨ag,ad,λ_ s e=>by have h1:=ah s e;have h2:=I.o;have h3:d<=s.block:=h1;omega,λ_ s e=>by have h1:=T s e;have h2:=I.o;omega⟩);have BF:=Y (aK (C.t A) (show v.heap.size<=v+1 by omega) (V:=.slice a1 k c1) (U:=.slice a2 c c2) (H:=Zb left));have⟨t0,X,t2⟩:=(z.aN (.slice a1 k c1) (.slice a2 c c2) (Zb left)).three;exact UM (by simp[results,results201,go_sem,t0,X,t2]) rfl ⟨a1,c1,a2,c2,rfl,(KH.grown (bI (au F (J:=some (v+1))) (.slice a1 k c1) (.slice a2 c c2) (Zb left)) (by omega)).low (by omega),BF⟩
end
namespace Mx
def vj(a b:Int):Nat->B8
 |0=>⟨0,0,0,0,0,0,0,0⟩
 |1=>⟨(a / 16777216),0,0,0,(b / 16777216),0,0,0⟩
 |2=>⟨(a / 16777216),(a / 65536%256),0,0,(b / 16777216),(b / 65536%256),0,0⟩
 |3=>⟨(a / 16777216),(a / 65536%256),(a / 256%256),0,(b / 16777216),(b / 65536%256),(b / 256%256),0⟩
 |_=>eH a b
end Mx
theorem Bx.bL(h:Bx v k #[O,N,K,A,t,s,r,o] R):v.cell? k=O/\v.cell? (k,1)=N/\v.cell? (k,2)=K/\v.cell? (k,3)=A/\v.cell? (k,4)=t/\v.cell? (k,5)=s/\v.cell? (k,6)=r/\v.cell? (k,7)=o:=
 ⟨h.cell 0,h.cell 1,h.cell 2,h.cell 3,h.cell 4,h.cell 5,h.cell 6,h.cell 7⟩
def B8.ve(x:B8):Array V_:=x
theorem rU(w:W_)(ag:0<=x)(ae:x<=2147483647)(ad:0<=y)(ab:y<=2147483647)(hx:d=eH x y):
 C_ prog 183 #[x,y] w λU S=>U=Zv d/\OS w S:=by
 have⟨M,L⟩:=ZX ((w.alloc (.cells () 65)).alloc (.cells () 65));have V:H_ (OT M w):=(by rw[L];exact(Bx.new w _ _).alloc _);have T:=Y (show OT M (w+1) by
  rw[L];have h:=Bx.new (w.alloc (.cells () 65)) () 65;rw[dl] at h;exact h)
 have D0:H_ (OS w M):=(by rw[L];exact(af).alloc (by simp) _);go_enter func183,ntmps183;change aA Tryz.f183 _ 0 _ w;apply aj rfl;intro K H;go_wp2;refine Met.intro (aj rfl ?_);try clear H K
 intro K H;go_wp2;rw[<-L];refine Met.intro (aj rfl ?_);try clear H K
 intro K H;go_wp2;go_loopw [8] (λN wr=>∃J:Nat,J<=4/\N=Zb (J:Int)/\H_ (OT wr w)/\H_ (Bx wr (w+1) (vj x y J).ve 65)/\H_ (OS w wr)) (λN _=>4-(intOf N).toNat)
 case atStart=>exact⟨0,by omega,rfl,V,T,D0⟩
 case round=>
  obtain⟨J,hk,rfl,z,F,I⟩:=hrel
  match J,hk with
  |0,_=>
   have j:OT wr (w+1):=F.o;have f:=Y j;clear j;have⟨l,q,s,k,o,r,u,t⟩:=Bx.bL f;have D:=f.frozen;rw[show((0:Nat):Int)=0 from rfl];go_upto_region 6 with fail;go_region;all_goals
    have⟨i,e⟩:=ZX (((wr.setCell (w.heap.size+1,0) (Za (x/16777216))).setCell (w.heap.size+1,4) (Za (y/16777216))).drew);have A:H_ (Bx i (w+1) (vj x y (0+1)).ve 65):=(by rw[e];exact(f.set 0 _).set 4 _);have E:H_ (OT i w):=(by rw[e];exact(z.other _ _ (by simp)).other _ _ (by simp));have C:H_ (OS w i):=(by rw[e];exact((I.setCell (p:=(w.heap.size+1,0)) (by simp) _).setCell (p:=(w.heap.size+1,4)) (by simp) _).drew);rw[<-e];clear l q s k o r u t D;go_wp2;go_roundw
    case rel=>exact⟨0+1,by omega,rfl,E,A,C⟩
    case measure=>simp[intOf]
  |1,_=>
   have j:Bx wr (w+1) #[Za (x/16777216),Zu,Zu,Zu,Za (y/16777216),Zu,Zu,Zu] 65:=F.o;have f:=Y j;clear j;have⟨l,q,s,k,o,r,u,t⟩:=Bx.bL f;have D:=f.frozen;rw[show((1:Nat):Int)=1 from rfl];go_upto_region 6 with fail;go_region;all_goals
    have⟨i,e⟩:=ZX (((wr.setCell (w.heap.size+1,1) (Za (x/65536%256))).setCell (w.heap.size+1,5) (Za (y/65536%256))).drew);have A:H_ (Bx i (w+1) (vj x y (1+1)).ve 65):=(by rw[e];exact(f.set 1 _).set 5 _);have E:H_ (OT i w):=(by rw[e];exact(z.other _ _ (by simp)).other _ _ (by simp));have C:H_ (OS w i):=(by rw[e];exact((I.setCell (p:=(w.heap.size+1,1)) (by simp) _).setCell (p:=(w.heap.size+1,5)) (by simp) _).drew);rw[<-e];clear l q s k o r u t D;go_wp2;go_roundw
    case rel=>exact⟨1+1,by omega,rfl,E,A,C⟩
    case measure=>simp[intOf]
  |2,_=>
   have j:Bx wr (w+1) #[Za (x/16777216),Za (x/65536%256),Zu,Zu,Za (y/16777216),Za (y/65536%256),Zu,Zu] 65:=F.o;have f:=Y j;clear j;have⟨l,q,s,k,o,r,u,t⟩:=Bx.bL f;have D:=f.frozen;rw[show((2:Nat):Int)=2 from rfl];go_upto_region 6 with fail;go_region;all_goals
    have⟨i,e⟩:=ZX (((wr.setCell (w.heap.size+1,2) (Za (x/256%256))).setCell (w.heap.size+1,6) (Za (y/256%256))).drew);have A:H_ (Bx i (w+1) (vj x y (2+1)).ve 65):=(by rw[e];exact(f.set 2 _).set 6 _);have E:H_ (OT i w):=(by rw[e];exact(z.other _ _ (by simp)).other _ _ (by simp));have C:H_ (OS w i):=(by rw[e];exact((I.setCell (p:=(w.heap.size+1,2)) (by simp) _).setCell (p:=(w.heap.size+1,6)) (by simp) _).drew);rw[<-e];clear l q s k o r u t D;go_wp2;go_roundw
    case rel=>exact⟨2+1,by omega,rfl,E,A,C⟩
    case measure=>simp[intOf]
  |3,_=>
   have j:Bx wr (w+1) #[Za (x/16777216),Za (x/65536%256),Za (x/256%256),Zu,Za (y/16777216),Za (y/65536%256),Za (y/256%256),Zu] 65:=F.o;have f:=Y j;clear j;have⟨l,q,s,k,o,r,u,t⟩:=Bx.bL f;have D:=f.frozen;rw[show((3:Nat):Int)=3 from rfl];go_upto_region 6 with fail;go_region;all_goals
    have⟨i,e⟩:=ZX (((wr.setCell (w.heap.size+1,3) (Za (x%256))).setCell (w.heap.size+1,7) (Za (y%256))).drew);have A:H_ (Bx i (w+1) (vj x y (3+1)).ve 65):=(by rw[e];exact(f.set 3 _).set 7 _);have E:H_ (OT i w):=(by rw[e];exact(z.other _ _ (by simp)).other _ _ (by simp));have C:H_ (OS w i):=(by rw[e];exact((I.setCell (p:=(w.heap.size+1,3)) (by simp) _).setCell (p:=(w.heap.size+1,7)) (by simp) _).drew);rw[<-e];clear l q s k o r u t D;go_wp2;go_roundw
    case rel=>exact⟨3+1,by omega,rfl,E,A,C⟩
    case measure=>simp[intOf]
  |4,_=>
   have j:Bx wr (w+1) #[Za (x/16777216),Za (x/65536%256),Za (x/256%256),Za (x%256),Za (y/16777216),Za (y/65536%256),Za (y/256%256),Za (y%256)] 65:=F.o;have f:=Y j;clear j;rw[show((4:Nat):Int)=4 from rfl];have⟨l,q,s,k,o,r,u,t⟩:=Bx.bL f;have⟨x0,x1,x2,x3,x4,x5,x6,x7⟩:=Bx.bL z;have xz:=z.frozen;go_wp2;refine Met.intro (bg (c:=.seq _ .ret) rfl ?_);try clear H
   try clear K
   subst hx;go_wp2;have⟨O,G⟩:=ZX (aV wr w 0 (eH x y));have R:H_ (Bx O w #[Za (x/16777216),Za (x/65536%256),Za (x/256%256),Za (x%256),Za (y/16777216),Za (y/65536%256),Za (y/256%256),Za (y%256)] 65):=(by rw[G];exact fc z (eH x y));have X:H_ (OS w O):=(by rw[G];exact bP I (OJ _) _ _);unfold aV eH at G;simp only[m9] at G;rw[<-G];have⟨t0,P,t2,W,t4,Z,t6,Q⟩:=Bx.bL R;exact UM (v:=.agg #[Za (x/16777216),Za (x/65536%256),Za (x/256%256),Za (x%256),Za (y/16777216),Za (y/65536%256),Za (y/256%256),Za (y%256)]) (by simp[results,results183,go_sem,t0,P,t2,W,t4,Z,t6,Q]) rfl ⟨rfl,X⟩
theorem Du(h0:1<=k)(h1:k<=32):
 C_ prog 169 #[k] v λi q=>∃a c,i=Zr #[.agg #[.slice a (sz k) c,Zs,Zb (-1)],Zn]/\H_ (BL q a (sz k) (List.replicate (sz k) zB))/\H_ (OS v q):=by
 have d:sz k<=67/\1<=sz k:=by unfold sz;omega
 have⟨N,o⟩:=ZX (sz k);rw[<-o] at d ⊢;have⟨G,P⟩:=d;have⟨l,f⟩:=ZX (v.alloc (.cells #[Zs,Zs,Zi] 272));have j:=bxA f;have A:=beA f;go_enter func169,ntmps169;go_wp2_with fail;rw[<-f];refine(zC l h0 h1).mono ?_;rintro i M ⟨rfl,d⟩;obtain rfl:=d.symm;clear d;rw[<-o];go_wp2_with fail;refine(Kx (n:=N) (w:=l) (by omega) (by omega)).mono ?_;rintro i t ⟨a,c,rfl,r,x,p⟩;have e:=Y (j.later p j.lt);have z:=Y (A.t p);have⟨Q,O,L⟩:=e.three;have I:=e.frozen;go_wp2_with fail;have⟨E,y,F⟩:=(e.aN (.slice a N c) Zs (Zb (-1))).three;have D:=Y (aK z (OJ _) (V:=.slice a N c) (U:=Zs) (H:=Zb (-1)));have C:=Y (bI (au t (J:=some v)) (.slice a N c) Zs (Zb (-1)));exact UM (by simp[results,results169,go_sem,E,y,F]) rfl ⟨a,c,rfl,⟨r.1,r.2.eW C (λK s u=>by have h1:=x s u;have h2:=j.lt;omega)⟩,D⟩
structure StW (w:W_) (g n h:Nat) (ls:List B8) (ps:List Pt) (left:Int) (sa:Option A_) (sc:Nat) (pa:Option A_) (pn pc:Nat):Prop where
 bx:Sbx w g n h sa (Mx.sz n) sc pa pn pc left
 bl:BL w sa (Mx.sz n) ls
 pl:PL w pa pn ps
 a1:0<Mx.sz n->∀p,sa=some p->p.block≠g
 a2:0<pn->∀p,pa=some p->p.block≠g
 n1:1<=n
 n2:n<=32
 h1:h<=1
 l1:-9223372036854775808<=left
 l2:left<=9223372036854775807
theorem StW.later{w w':W_}{g n h:Nat}{j:List B8}{d:List Pt}{left:Int}{e:Option A_}{f:Nat}{l:Option A_}{i k:Nat}(hs:StW w g n h j d left e f l i k)(c:OS w w'):StW w' g n h j d left e f l i k:=
 {hs with bx:=Bx.later hs.bx c (Bx.lt hs.bx),bl:=hs.bl.later c,pl:=hs.pl.later c}
theorem Mx.oN(h:k<=32):db (sz k) []=0:=sw (by unfold sz;simp;omega) (λd p c=>by simp at c)
theorem KD(hs:BL v q c l)(o:PL v p i Z)(ah:1<=k)(ae:k<=32)(f:c=sz k)(P:db c Z=0)(D:i=0)(Q:x≠0)(ao:-9223372036854775808<=x)(aE:x<=9223372036854775807)(hx:d=l.getD 0 zB)(s:d.z0%2=(W:Int))(aB:0<=d.z0):
 C_ prog 202 #[.agg #[(q,c,j),(p,i,X),x],k] v λG r=>∃g a1 c1 a2 c2,G=Zr #[.pointer (some ⟨g,0,none⟩),Zn]/\H_ (v.heap.size<=g)/\H_ (StW r g k W l [] x a1 c1 a2 0 c2)/\H_ (OS v r):=by
 have aH:=Y (show jR c Z x 0=0 by
  have s:ct c Z 0=0:=by unfold ct;rw[UY P,UY (by rw[f];unfold sz;omega)]
  unfold jR;rw[UY s,UX Q])
 have af:H_ (Z=[]):=kw (by rw[o.1,D]);have aI:H_ (d=eB l Z 0):=(by rw[af,kY];exact hx);have d2:decide ((0:Int)<i)=false:=by rw[D];simp
 have aJ:decide (0<i)=false:=by rw[D];simp
 have ar:=Y D;have aM:=Y Q;have hh:(W:Int)<=1:=by omega
 have HZ:=Y s;have av:c<=1000:=by rw[f];unfold sz;omega
 have ax:i<=1000:=by rw[D];omega
 have aC:=Y P;have R:=Y f;clear D Q hx P f s;have⟨W0,V⟩:=ZX (v.alloc (.cells #[(q,c,j),(p,i,X),x] 272));have O:=bxA V;have U:=beA V;have HS:=Y (hs.later U);have HP:=Y (o.later U);have aK:=Y o.1;clear hs o;go_enter func202,ntmps202;change aA Tryz.f202 _ 0 _ v;refine aj rfl ?_;intro K e;go_wp2;rw[<-V];refine Met.intro (aj rfl ?_);try clear e K
 intro K e;go_wp2_with fail;refine(zC W0 ah ae).mono ?_;rintro G wz ⟨rfl,s⟩;obtain rfl:=s.symm;clear s;have⟨ag,S⟩:=ZX (sz k);rw[<-S];go_wp2;refine Met.intro (aj rfl ?_);try clear e K
 intro K e;go_wp2;refine Met.intro (aj rfl ?_);try clear e K
 intro K e;have⟨E,C,A⟩:=O.three;go_wp2_with fail;refine(iH q j X x Z HP HS.2.2.1).mono ?_;rintro G w1 ⟨rfl,L⟩;have N:=Y (O.later L O.lt);have B1:=Y (U.t L);have ai:=Y (HS.later L);have ak:=Y (HP.later L);clear E C A L;have⟨E,C,A⟩:=N.three;rw[aC,aQ];have d1:((c:Int) !=ag)=false:=by rw[S,R];simp
 have aO:(c !=ag)=false:=by rw[S,R];simp
 go_wp2;refine Met.intro (aj rfl ?_);try clear e K
 intro K e;go_wp2_with fail;refine(mW q j X ai ak aH aI).mono ?_;rintro G w2 ⟨rfl,D2⟩;have⟨W3,ad⟩:=ZX (w2.alloc (.cells d 65));have D3:=beA ad;have J:=bxA ad;have M:=Y (D2.t D3);have H:=Y (N.later M N.lt);have B3:=Y (B1.t M);have aD:=Y (ai.later M);have am:=Y (ak.later M);clear E C A D2;go_wp2;rw[<-ad];refine Met.intro (aj rfl ?_);try clear e K
 intro K e;go_wp2;refine Met.intro (bg (c:=.seq _ .ret) rfl ?_);try clear e
 try clear K
 have⟨E,C,A⟩:=H.three;have y0:=(Bx.bL J).1;have aP:d.z0.tmod 2=(W:Int):=by rw[TZ aB];exact HZ
 have aL:IntKind.i64.wrap (W:Int)=(W:Int):=by rw[IntWalk.i64_left,IntWalk.wrap64_in _ (by omega)]
 go_upto_region 9 with fail;go_region_held3 (λr=>r.cell? v=(q,c,j)/\r.cell? (v,1)=(p,i,X)/\r.cell? (v,2)=Zb x/\r.cell? w2=Za d.z0)
  (first|((try simp only[an]);with_reducible exact⟨E,C,A,y0⟩)|((try simp only[aq aF,aq aw]);with_reducible exact⟨z0,z1,z2,u0⟩))
  (first|(go_at_call 201;(with_reducible refine(rZ j X x (aD.o.later (ce _ _).drew) (am.o.later (ce _ _).drew) av ax).mono ?_);rintro G F ⟨a1,c1,a2,c2,rfl,K4,E4⟩;have t:=Y (show OS W3 F from(ce _ _).drew.trans E4);have⟨z0,z1,z2⟩:=(H.later t H.lt).three;have u0:=(Bx.bL (J.later t J.lt)).1;have aF:=(H.later t H.lt).lt;have aw:=(J.later t J.lt).lt))
 all_goals
  have⟨W5,T⟩:=ZX (F.alloc (.cells #[k,W,.slice a1 c c1,.slice a2 i c2,x] 279));have D5:=beA T;have S5:=bxA T;have au:=Y (t.t D5);have B5:=Y (B3.t au);have K5:=Y (K4.later D5);have ap:v.heap.size<=F:=OP B3.size t.size;have az:0<c->∀I,a1=some I->I.block<F:=λf I o=>by
   have⟨b,aN,ha,aG,_⟩:=K4.bl.2.2.2 f;rw[ha] at o;cases o
   exact aG
  have ST:=Y (show StW W5 F k W l [] x a1 c1 a2 0 c2 by
   have ab:=R.o;have ay:=ar.o;have al:=af.o;subst ay al;refine⟨?_,?_,K5.pl,λf I o=>?_,λf=>absurd f (by omega),ah,ae,by omega,ao,aE⟩
   ·unfold Sbx
    rw[<-ab];exact S5
   ·rw[<-ab]
    exact K5.bl
   ·have h1:=az (by rw[ab];exact f) I o
    omega)
  rw[<-T];clear E C A y0 z0 z1 z2 u0;go_wp2;go_ret2;exact⟨F,a1,c1,a2,c2,rfl,ap,ST,B5⟩
section
variable {w:W_}{g n:Nat}
theorem Bx.Ar(h:Bx w g I R):Bx w.drew g I R:=h
def Mx.by8(x:B8):Prop:=(0<=x.z0/\x.z0<=255)/\(0<=x.z1/\x.z1<=255)/\(0<=x.z2/\x.z2<=255)/\(0<=x.z3/\x.z3<=255)/\(0<=x.z4/\x.z4<=255)/\(0<=x.z5/\x.z5<=255)/\(0<=x.z6/\x.z6<=255)/\(0<=x.z7/\x.z7<=255)
theorem BL.max(h:BL w q n l):n<=maxLen:=by
 unfold BL dt at h;exact h.2.2.1
theorem Bx.lo4(h:Bx w g d R)(e:by8 d):Bytes w (some ⟨g,0,none⟩) 4 [d.z0,d.z1,d.z2,d.z3]:=by
 have⟨k,o,j,l,_,_,_,_⟩:=Bx.bL h;refine⟨rfl,by unfold maxLen;omega,?_,λ_=>⟨g,0,rfl,λi f=>?_⟩⟩
 ·unfold by8 at e;intro y c;simp only[ro,Um,or_false] at c;rcases c with rfl|rfl|rfl|rfl<;>omega
 ·match i,f with
  |0,_=>exact k
  |1,_=>exact o
  |2,_=>exact j
  |3,_=>exact l
theorem Bx.hi4(h:Bx w g d R)(i:by8 d):Bytes w (some ⟨g,4,none⟩) 4 [d.z4,d.z5,d.z6,d.z7]:=by
 have⟨_,_,_,_,l,e,f,o⟩:=Bx.bL h;refine⟨rfl,by unfold maxLen;omega,?_,λ_=>⟨g,4,rfl,λk j=>?_⟩⟩
 ·unfold by8 at i;intro y c;simp only[ro,Um,or_false] at c;rcases c with rfl|rfl|rfl|rfl<;>omega
 ·match k,j with
  |0,_=>exact l
  |1,_=>exact e
  |2,_=>exact f
  |3,_=>exact o
theorem StW.ct{w:W_}{g n h:Nat}{i:List B8}{c:List Pt}{left:Int}{d:Option A_}{e:Nat}{o:Option A_}{f j:Nat}(hs:StW w g n h i c left d e o f j)(l:c=[]){k:Nat}(p:k<sz n):ct (sz n) c (k:Int)=0:=by
 have h0:db (sz n) c=0:=by rw[l];exact oN hs.n2
 unfold Mx.ct;rw[UY h0,UY (by omega)]
theorem StW.jR{w:W_}{g n h:Nat}{j:List B8}{c:List Pt}{left:Int}{d:Option A_}{e:Nat}{q:Option A_}{i l:Nat}(hs:StW w g n h j c left d e q i l)(o:c=[])(f:left≠0){k:Nat}(p:k<sz n):jR (sz n) c left (k:Int)=0:=by
 unfold Mx.jR;rw[UY (hs.ct o p),UX f]
theorem Jf(hs:StW v k c j l Z x q i p X W)(I:y<0\/(c:Int)<=y):
 C_ prog 145 #[(k,0),y] v λt M=>t=Zr #[(),Zf 1]/\OS v M:=by
 have T:=Y I;clear I;have N:=Y hs;have⟨R,o⟩:=ZX (v.alloc (.cells () 65));have u:=bxA o;have J:=beA o;have Q:=Y (N.later J);have S:=hs.n1;have ae:=hs.n2;have ad:=hs.h1;have⟨V,hN⟩:=ZX (sz c);have ab:k<v:=Bx.lt hs.bx;clear hs;go_enter func145,ntmps145;change aA Tryz.f145 _ 0 _ v;refine aj rfl ?_;intro K f;go_wp2;rw[<-o];refine Met.intro (aj rfl ?_);try clear f K
 intro K f;have⟨H,x1,x2,x3,x4⟩:=Q.bx.cells;go_wp2_with fail;refine(gH H S).mono ?_;rintro t U ⟨rfl,e⟩;obtain rfl:=e.symm;clear e;go_wp2;refine Met.intro (aj rfl ?_);try clear f K
 intro K f;go_wp2_with fail;refine(qt y H).mono ?_;rintro t U ⟨rfl,e⟩;obtain rfl:=e.symm;clear e;have O:=Y (show inside c y=false by have:=T.o;unfold inside;simp;omega);rw[O];have⟨E,r,F,z,D,A,C,s⟩:=Bx.bL u;have tz:=u.frozen;go_wp2;have⟨G,d⟩:=ZX (aV R v 0 zB);have L:H_ (OT G v):=(by rw[d];exact fc u zB);have P:H_ (OS v G):=(by rw[d];exact bP J (OJ _) _ _);unfold aV zB at d;simp only[m9] at d;rw[<-d];clear E r F z D A C s;have⟨E,r,F,z,D,A,C,s⟩:=Bx.bL L;exact UM (by simp[results,results145,go_sem,E,r,F,z,D,A,C,s]) rfl ⟨rfl,P⟩
theorem zU(hs:StW v k c j l Z x q X p W V)(P:Z=[])(hl:x≠0)(Q:i<c)(hx:d=l.getD (bpl c j i) zB):
 C_ prog 145 #[(k,0),i] v λr f=>r=Zr #[d,Zn]/\OS v f:=by
 have⟨al,ab⟩:=ZX ((i:Int));rw[<-ab];have HR:=Y (hs.jR P hl (nJ hs.h1 Q));have HX:H_ (d=eB l Z ((bpl c j i:Nat):Int)):=(by rw[P,kY,m6];exact hx);clear hx P hl;have HH:=Y hs;have⟨M,u⟩:=ZX (v.alloc (.cells () 65));have X0:=bxA u;have R:=beA u;have A:=Y (HH.later R);have ak:=hs.n1;have ai:=hs.n2;have ad:=hs.h1;have⟨af,C⟩:=ZX (sz c);have ag:k<v:=Bx.lt hs.bx;clear hs;go_enter func145,ntmps145;change aA Tryz.f145 _ 0 _ v;refine aj rfl ?_;intro K t;go_wp2;rw[<-u];refine Met.intro (aj rfl ?_);try clear t K
 intro K t;have⟨o,x1,G,x3,x4⟩:=A.bx.cells;go_wp2_with fail;refine(gH o ak).mono ?_;rintro r wz ⟨rfl,e⟩;obtain rfl:=e.symm;clear e;go_wp2;refine Met.intro (aj rfl ?_);try clear t K
 intro K t;go_wp2_with fail;refine(qt al o).mono ?_;rintro r wz ⟨rfl,e⟩;obtain rfl:=e.symm;clear e;rw[ab];have HI:=Y (show inside c (i:Int)=true by unfold inside;simp;omega);rw[HI];go_wp2;refine Met.intro (bg (c:=.seq _ .ret) rfl ?_);try clear t
 try clear K
 have⟨ao,D⟩:=ZX (bpl c j i);have ae:bpl c j i<sz c:=nJ ad Q;rw[<-C] at ae G;rw[<-D] at ae;have S0:=Y (show M=v.heap.size+1 by rw[u];simp);have am:k<M:=OE ag R.size;rw[<-C,<-D] at HR;rw[<-D] at HX;have ah:¬v=k:=by omega
 go_upto_region 6 with fail;go_region_held3 (λf=>f.cell? k=Zb (c:Int)/\f.cell? (k,1)=Zb (j:Int)/\f.cell? (k,2)=(q,af,X)/\f.cell? (k,3)=(p,W,V)/\f.cell? (k,4)=Zb x)
  (first|((try simp only[an,aw ah]);first|with_reducible exact⟨o,x1,G,x3,x4⟩|with_reducible exact⟨y0,y1,I,y3,y4⟩))
  (first|(go_at_call 175;refine(oz k (by first|exact o|(simp only[an];exact o)) ai ad Q).mono ?_;rintro r wz ⟨rfl,e⟩;obtain rfl:=e.symm;clear e;rw[<-D])|(go_at_call 161;(with_reducible refine(mW q X V (by rw[C.o];exact A.o.bl.later (ce _ _).drew) (A.o.pl.later (ce _ _).drew) HR.o HX.o).mono ?_);rintro r w2 ⟨rfl,E2⟩;have E:=Y (show OS M w2 from(ce _ _).drew.trans E2);have H2:=Y (A.later E);have⟨y0,y1,I,y3,y4⟩:=H2.bx.cells;rw[<-C] at I;have L:=Y (X0.later E X0.lt);have⟨T,F,U,J,S,N,O,H⟩:=Bx.bL L;have tz:=L.frozen))
 all_goals
  clear o x1 G x3 x4 y0 y1 I y3 y4 T F U J S N O H;have⟨W6,s⟩:=ZX (aV w2 v 0 d);have XF:H_ (OU W6 v d):=(by rw[s];exact fc L d);have BF:H_ (OS v W6):=(by rw[s];exact bP (R.t E) (OJ _) _ _);unfold aV at s;simp only[m9] at s;rw[<-s];have⟨T,F,U,J,S,N,O,H⟩:=Bx.bL XF;go_wp2;exact UM (by simp[results,results145,go_sem,T,F,U,J,S,N,O,H]) rfl ⟨rfl,BF⟩
namespace Mx
def vw(n h:Nat)(ls:List B8):List B8:=(List.range n).map (λi=>ls.getD (bpl n h i) zB)
theorem Nb(n h:Nat)(c:List B8):(vw n h c).length=n:=by unfold vw;simp
def vwK(n h:Nat)(ls:List B8)(k:Nat):List B8:=(List.range n).map (λi=>if i<k then ls.getD (bpl n h i) zB else zB)
theorem sW(n h:Nat)(c:List B8)(k:Nat):(vwK n h c k).length=n:=by unfold vwK;simp
theorem Jp(n h:Nat)(c:List B8):vwK n h c 0=List.replicate n zB:=by
 unfold vwK;apply List.ext_getElem
 ·simp
 ·intro i h1 h2;simp
theorem Ly(n h:Nat)(c:List B8):vwK n h c n=vw n h c:=by
 unfold vwK vw;refine Ux (λi d=>?_);rw[IR] at d;rw[UY d]
theorem Lz(_:k<n):(vwK n c l k).set k (l.getD (bpl n c k) zB)=vwK n c l (k+1):=by
 apply List.ext_getElem
 ·rw[t9,sW,sW]
 ·intro i h1 h2;rw[List.getElem_set];have d:∀(q:Nat) (_:i<(vwK n c l q).length),(vwK n c l q)[i]=if i<q then l.getD (bpl n c i) zB else zB:=λq _=>by
   simp only[vwK,List.getElem_map,List.getElem_range]
  by_cases e:k=i
  ·subst e;rw[UY rfl,d,UY (by omega)]
  ·rw[UX e,d,d];by_cases f:i<k
   ·rw[UY f,UY (by omega)]
   ·rw[UX f,UX (by omega)]
end Mx
theorem zR(hs:StW v k c j l Z x q i p X W)(O:Z=[])(F:x≠0):
 C_ prog 127 #[(k,0)] v λz G=>∃N,z=Zr #[.slice (some ⟨N,0,none⟩) c c,Zn]/\ay G v (.slice (some ⟨N,0,none⟩) c c) (vw c j l)/\OS v G:=by
 have T:=Y O;have ag:=Y F;have al:=hs.h1;clear O F;have I:=Y hs;have af:=hs.n1;have an:=hs.n2;have ah:k<v:=Bx.lt hs.bx;have⟨M,x1,U,x3,x4⟩:=hs.bx.cells;have⟨ae,hC,HC⟩:=ia c (by omega);clear hs;go_enter func127,ntmps127;change aA Tryz.f127 _ 0 _ v;refine aj rfl ?_;intro K o;go_wp2;refine Met.intro (aj rfl ?_);try clear o K
 intro K o;go_wp2_with fail;refine(gH M af).mono ?_;rintro z wz ⟨rfl,f⟩;obtain rfl:=f.symm;clear f;go_wp2;refine Met.intro (aj rfl ?_);try clear o K
 intro K o;have L:=Y (HC v v (OJ _));have⟨W1,y⟩:=ZX (v.alloc (.cells ae 65));rw[<-y] at L;have Q:=beA y;have H1:=Y (I.later Q);go_wp2;rw[<-y];refine Met.intro (aj rfl ?_);try clear o K
 intro K o;clear M x1 U x3 x4;go_wp2;go_loopw [21] (λR wr=>∃e:Nat,R=Zb (e:Int)/\e<=c/\H_ (ay wr v (v,c,c) (vwK c j l e))/\H_ (OS v wr)) (λR _=>c-(intOf R).toNat)
 case atStart=>exact⟨0,rfl,by omega,by unfold H_;rw[Jp];exact L,Q⟩
 case round=>
  obtain⟨e,rfl,hk,A,C⟩:=hrel;by_cases u:e<c
  ·have ak:(e:Int)<c:=by omega
   obtain⟨r,D⟩:∃r:B8,H_ (r=l.getD (bpl c j e) zB):=⟨_,rfl⟩;go_wp2_with fail;refine(zU (I.later C) T ag u D).mono ?_;rintro z t ⟨rfl,P⟩;have s:H_ (ay t v (v,c,c) (vwK c j l e)):=aW A P;have S:=Y (C.t P);have⟨ai,_,e0,e1,e2,e3,e4,e5,e6,e7⟩:=s.at_ e u;have ao:∀ab,t.frozen? ⟨v,ab,none⟩=false:=by
    have⟨g',E,_,_,_,f⟩:=ay.form s (by omega);cases E
    exact f
   have am:v<t.heap.size:=by
    have⟨g',E,_,f,_,_⟩:=ay.form s (by omega);cases E
    exact f
   have O9:=Y (show ay (aV t v (e*8) r) v (v,c,c) (vwK c j l (e+1)) by
    have H:=ay.put s e (by rw[sW];exact u) r;rw[D,Lz u,<-D] at H;exact H)
   have J:=Y (bP S (OJ _) (e*8) r);go_wp2;exact⟨⟨e+1,by go_num,by omega,World.ownsRow.alloc O9 _,J.alloc J.size _⟩,by simp[intOf];omega⟩
  ·have ad:e=c:=by omega
   subst ad;rw[Ly] at A;go_wp2;refine Met.intro (bg (c:=.seq _ .ret) rfl ?_);go_wp2;exact UM (by simp[results,results127,go_sem]) rfl ⟨_,rfl,A,C⟩
theorem Lm(hs:StW v k c j l Z x q i p X W)(V:Z=[])(hl:x≠0)(hx:d=l.getD (npl c j) zB)(ae:by8 d):
 C_ prog 126 #[(k,0)] v λr o=>r=Zr #[Zb (Ch d),Zb (Cj d),Zn]/\OS v o:=by
 have ad:npl c j<sz c:=rH hs.h1;have O:=Y (hs.jR V hl ad);have P:H_ (d=eB l Z ((npl c j:Nat):Int)):=(by rw[V,kY,m6];exact hx);have G:=Y ae;clear hx V hl ae;have A:=Y hs;have am:=hs.n1;have al:=hs.n2;have ak:=hs.h1;have⟨ah,t⟩:=ZX (sz c);have⟨ao,H⟩:=ZX (npl c j);rw[<-t,<-H] at O;rw[<-H] at P;rw[<-t,<-H] at ad;have ab:k<v:=Bx.lt hs.bx;have ai:¬v=k:=by omega
 have⟨C,x1,N,x3,x4⟩:=hs.bx.cells;rw[<-t] at N;clear hs;go_enter func126,ntmps126;change aA Tryz.f126 _ 0 _ v;refine aj rfl ?_;intro K s;go_wp2;refine Met.intro (aj rfl ?_);try clear s K
 intro K s;go_wp2_with fail;refine(gH C am).mono ?_;rintro r wz ⟨rfl,e⟩;obtain rfl:=e.symm;clear e;go_wp2;refine Met.intro (aj rfl ?_);try clear s K
 intro K s;have Q:=Y (show OS v (v.alloc (.cells () 65)).drew from(af).drew);have L:=Y (show OS v v.drew from(ce _ _).drew);have XA:H_ (Bx (v.alloc (.cells () 65)).drew v () 65):=Bx.dC v _ _;go_region_held3 (λo=>o.cell? k=Zb (c:Int)/\o.cell? (k,1)=Zb (j:Int)/\o.cell? (k,2)=(q,ah,i)/\o.cell? (k,3)=(p,X,W)/\o.cell? (k,4)=Zb x)
  (first|((try simp only[an,aq ab]);with_reducible exact⟨C,x1,N,x3,x4⟩)|((try simp only[aq ag,aw ai]);with_reducible exact⟨S,y1,E,R,T⟩))
  (first|(go_at_call 162;refine(fQ k (by first|exact C|(simp only[an];exact C)|(simp only[an,aq ab];exact C)) al ak).mono ?_;rintro r wz ⟨rfl,e⟩;obtain rfl:=e.symm;clear e;rw[<-H])|(go_at_call 161;(with_reducible refine(mW q i W (by rw[t.o];exact A.o.bl.later L.o) (A.o.pl.later L.o) O.o P.o).mono ?_);rintro r M ⟨rfl,J⟩;have u:=Y (L.t J);have D:=Y (A.later u);have⟨S,y1,E,R,T⟩:=D.bx.cells;rw[<-t] at E;have ag:=D.bx.lt)|(go_at_call 161;(with_reducible refine(mW q i W (by rw[t.o];exact A.o.bl.later Q.o) (A.o.pl.later Q.o) O.o P.o).mono ?_);rintro r M ⟨rfl,J⟩;have u:=Y (Q.t J);have D:=Y (A.later u);have⟨S,y1,E,R,T⟩:=D.bx.cells;rw[<-t] at E;have ag:=D.bx.lt;have U:=Y (XA.later J XA.lt);have⟨t0,t1,t2,t3,t4,t5,t6,t7⟩:=Bx.bL U;have tz:=U.frozen))
 all_goals
  first
   |(have⟨I,f⟩:=ZX (M.alloc (.cells d 65))
     have F:=bxA f;have D3:H_ (OS v I):=(by rw[f];exact u.alloc u.size _);rw[<-f])
   |(have⟨I,f⟩:=ZX (aV M v 0 d)
     have F:H_ (OU I v d):=(by rw[f];exact fc U d);have D3:H_ (OS v I):=(by rw[f];exact bP u (OJ _) _ _);unfold aV at f;simp only[m9] at f;rw[<-f])
  clear C x1 N x3 x4 S y1 E R T;go_wp2;refine Met.intro (aj rfl ?_);try clear s
  try clear K
  intro K s;go_wp2;refine Met.intro (bg (c:=.seq _ .ret) rfl ?_);try clear s
  try clear K
  have X4:=Y (Bx.Ar F);have D4:=Y (D3.drew);go_upto_region 7 with fail;go_region_held3 (λ_=>True)
   (exact trivial)
   (first|(go_at_call 163;(with_reducible refine(rI (a:=some ⟨_,0,none⟩) [d.z0,d.z1,d.z2,d.z3] (by first|with_reducible exact Bx.lo4 F.o G.o|with_reducible exact Bx.lo4 X4.o G.o)).mono ?_);rintro r wz ⟨rfl,e⟩;obtain rfl:=e.symm;clear e;rw[tP])|(go_at_call 163;(with_reducible refine(rI (a:=some ⟨_,4,none⟩) [d.z4,d.z5,d.z6,d.z7] (by first|with_reducible exact Bx.hi4 F.o G.o|with_reducible exact Bx.hi4 X4.o G.o)).mono ?_);rintro r wz ⟨rfl,e⟩;obtain rfl:=e.symm;clear e;rw[tP]))
  all_goals
   go_wp2;exact UM (v:=.tuple #[Zb (ou d.z0 d.z1 d.z2 d.z3),Zb (ou d.z4 d.z5 d.z6 d.z7),Zn]) (by simp[results,results126,go_sem]) rfl ⟨rfl,D4⟩
theorem FG(hs:StW v k c j l Z x q i p X W)(F:X<=1000):
 C_ prog 158 #[(k,0)] v λC y=>∃a1 c1 a2 c2,C=Zv (.agg #[.slice a1 (sz c) c1,.slice a2 X c2,x])/\H_ (DK v y a1 (sz c) l a2 X Z)/\H_ (OS v y):=by
 have z:=Y hs;have O:k<v:=Bx.lt hs.bx;have⟨I,d⟩:=ZX (v.alloc (.cells #[Zs,Zs,Zi] 272));have D:=bxA d;have E:=beA d;have e:=Y (z.later E);clear hs;go_enter func158,ntmps158;change aA Tryz.f158 _ 0 _ v;refine aj rfl ?_;intro K o;go_wp2;rw[<-d];refine Met.intro (aj rfl ?_);try clear o K
 intro K o;go_wp2;refine Met.intro (bg (c:=.seq _ .ret) rfl ?_);try clear o
 try clear K
 have⟨x0,S,P,Q,T⟩:=e.bx.cells;have u:=Y (show I=v.heap.size+1 by rw[d];simp);go_wp2_with fail;refine(rZ i W x e.bl e.pl (by have:=z.n2;unfold sz;omega) F).mono ?_;rintro C G ⟨a1,c1,a2,c2,rfl,M,A⟩;have f:=Y (D.later A D.lt);have L:=Y (E.t A);have⟨s,r,t⟩:=f.three;have R:=f.frozen;go_wp2;have N:=Y (aK L (OJ _) (V:=.slice a1 (sz c) c1) (U:=.slice a2 X c2) (H:=Zb x));clear s r t;have⟨s,r,t⟩:=(f.aN (.slice a1 (sz c) c1) (.slice a2 X c2) (Zb x)).three;exact UM (by simp[results,results158,go_sem,s,r,t]) rfl ⟨a1,c1,a2,c2,rfl,(M.grown (bI (au G (J:=some v)) (.slice a1 (sz c) c1) (.slice a2 X c2) (Zb x)) (by have:=u.o;omega)).low (by have:=u.o;omega),N⟩
end
section
variable {w:W_}{g n:Nat}{a:Option A_}
theorem bQ(h:OS w v):w.grownBy v H:=⟨h.os,h.tape,h.output,h.size,λb c _=>h.block b c⟩
theorem zt(h1:-9223372036854775808<=x):-9223372036854775808<=less x:=by unfold less;split<;>omega
theorem zr(h1:x<=9223372036854775807):less x<=9223372036854775807:=by unfold less;split<;>omega
def xG(w:W_)(g:Nat)(s0 s1 s2:V_):W_:=((w.setCell ⟨g,2,none⟩ s0).setCell ⟨g,3,none⟩ s1).setCell ⟨g,4,none⟩ s2
theorem Sbx.put(l:Sbx w g n k q c j p i X x)(a1:Option A_)(d c1:Nat)(a2:Option A_)(e c2:Nat)(f:Int):
 Sbx (xG w g (a1,d,c1) (a2,e,c2) (Zb f)) g n k a1 d c1 a2 e c2 f:=((Bx.set l 2 _).set 3 _).set 4 _
theorem kg(h:w.grownBy v (some g)):w.grownBy (xG v g O N K) (some g):=ak (ak (ak h _ _) _ _) _ _
theorem BL.iK(h:BL w a n l)(d:w.grownBy v (some g))(c:0<n->∀p,a=some p->p.block≠g):BL v a n l:=TH h.1 (dt.eW h.2 d c)
theorem PL.iK(h:PL w a n Z)(d:w.grownBy v (some g))(c:0<n->∀p,a=some p->p.block≠g):PL v a n Z:=TH h.1 (dt.eW h.2 d c)
theorem StW.put{w:W_}{g n h:Nat}{k e:List B8}{f d:List Pt}{left c:Int}{q:Option A_}{i:Nat}{o:Option A_}{s l:Nat}(hs:StW w g n h k f left q i o s l){a1:Option A_}{c1:Nat}{a2:Option A_}{n2 c2:Nat}(u:BL w a1 (sz n) e)(j:PL w a2 n2 d)(h1:0<sz n->∀p,a1=some p->p.block≠g)(h2:0<n2->∀p,a2=some p->p.block≠g)(t:-9223372036854775808<=c)(r:c<=9223372036854775807):
 StW (xG w g (a1,sz n,c1) (a2,n2,c2) (Zb c)) g n h e d c a1 c1 a2 n2 c2:=
 {bx:=Sbx.put hs.bx a1 (sz n) c1 a2 n2 c2 c,bl:=u.iK (kg (au _)) h1,pl:=j.iK (kg (au _)) h2,a1:=h1,a2:=h2,n1:=hs.n1,n2:=hs.n2,h1:=hs.h1,l1:=t,l2:=r}
theorem uh(hs:StW v k c j l Z x q i p X W)(f:ep (sz c) Z x=0):
 C_ prog 184 #[(k,0)] v λo u=>∃a1 c1,o=Zv Zn/\H_ (StW u k c j (aH l Z) [] (less x) a1 c1 none 0 0)/\H_ (v.grownBy u (some k)):=by
 have V:=Y f;have ag:¬x=0:=by
  intro o;unfold ep at f;rw[UY o] at f;split at f<;>omega
 clear f;have d:=Y hs;have ad:k<v:=Bx.lt hs.bx;have ae:¬v=k:=by omega
 have⟨M,J,G,R,T⟩:=hs.bx.cells;clear hs;go_enter func184,ntmps184;change aA Tryz.f184 _ 0 _ v;refine aj rfl ?_;intro K e;go_wp2;refine Met.intro (aj rfl ?_);try clear e
 try clear K
 intro K e;go_wp2_with fail;refine(Dr (j:=i) (h:=W) d.bl d.pl d.l1 d.l2 V).mono ?_;rintro o E ⟨v1,rfl,C,z⟩;have⟨a1,c1,L,s,Q⟩:=C.bl;have ab:(aH l Z).length=sz c:=by rw[dD];exact d.bl.1
 rw[ab] at L s;subst L;have H2:=Y (d.later z);have S2:H_ (0<sz c->∀r,a1=some r->r.block≠k):=(λ_ r U=>by have h9:=Q r U;omega);have L2:=Y s;have D:=Y z;clear M J G R T s Q C z;have⟨W3,t⟩:=ZX (E.alloc (.cells #[.slice a1 (sz c) c1,Zs,Zb (less x)] 272));have X3:=bxA t;have P:=beA t;have F:=Y (D.t P);have A:=Y (d.later F);have L3:=Y (L2.later P);have I:=Y (A.put (c1:=c1) (c2:=0) L3 (PL.nil W3) S2 (λj=>absurd j (by omega)) (zt d.l1) (zr d.l2));have S:=Y (kg (bQ F (H:=some k)) (O:=.slice a1 (sz c) c1) (N:=Zs) (K:=Zb (less x)));unfold xG at I S;go_wp2;rw[<-t];refine Met.intro (aj rfl ?_);try clear e
 try clear K
 intro K e;go_wp2;refine Met.intro (aj rfl ?_);try clear e
 try clear K
 intro K e;have⟨M,J,G,R,T⟩:=A.bx.cells;have xz:=A.bx.frozen;have⟨t0,t1,t2⟩:=X3.three;have af:¬k=E:=by have h9:=D.size;omega
 go_wp2;refine Met.intro (bg (c:=.seq _ .ret) rfl ?_);try clear e
 try clear K
 go_wp2;exact UM (v:=.nilIface) (by simp[results,Tryz.results184,go_sem]) rfl ⟨a1,c1,rfl,I,S⟩
theorem pD(hs:StW v k c j l Z x q i p X W)(r:db (sz c) Z=0)(f:x=0):
 C_ prog 184 #[(k,0)] v λz u=>z=Zv (Zf 4)/\OS v u:=by
 have o:=Y (show ep (sz c) Z x=4 by unfold ep;rw[UY r,UY f]);have E:=Y (show ¬ep (sz c) Z x=0 by rw[o];omega);have A:aJ 4=Zf 4:=rfl;clear r f;have s:=Y hs;have I:k<v:=Bx.lt hs.bx;have J:¬v=k:=by omega
 have⟨H,F,C,D,G⟩:=hs.bx.cells;clear hs;go_enter func184,ntmps184;change aA Tryz.f184 _ 0 _ v;refine aj rfl ?_;intro K d;go_wp2_with fail;refine Met.intro (aj rfl ?_);try clear d
 try clear K
 intro K d;go_wp2_with fail;refine(Ds (a:=q) (j:=i) (h:=W) (BL.max s.bl) s.pl E).mono ?_;rintro z L ⟨rfl,t⟩;rw[o,A];have e:=Y t;clear H F C D G t;go_wp2_with fail;refine Met.intro (aj rfl ?_);try clear d
 try clear K
 intro K d;go_wp2_with fail;exact UM (by simp[results,results184,go_sem]) rfl ⟨rfl,e.alloc e.size _⟩
theorem oG(hs:StW v k c j l Z x q i p X W)(f:B8)(hm:cS (sz c) Z x y=0):
 C_ prog 182 #[(k,0),Zb y,f] v λai u=>∃a1 c1 a2 c2,ai=Zv Zn/\H_ (StW u k c j l (Z++[⟨y,f⟩]) (less x) a1 c1 a2 (X+1) c2)/\H_ (v.grownBy u (some k)):=by
 have HM:=Y hm;clear hm;have C:=Y hs;have ax:k<v:=Bx.lt hs.bx;obtain⟨N,s⟩:∃N:Nat,H_ (N=sz c):=⟨_,rfl⟩;obtain⟨d,ah⟩:∃d:W_,H_ (d=v.alloc (.cells f 65)):=⟨_,rfl⟩;have X0:=bxA ah;have D0:=beA ah;have S0:=Y (show d.heap.size=v+1 by rw[ah.o];simp);have J:=Y (C.o.later D0.o);clear hs;rw[<-s.o] at HM;go_enter func182,ntmps182;change aA Tryz.f182 _ 0 _ v;apply aj rfl;intro K L;go_wp2;rw[<-ah.o];refine Met.intro (aj rfl ?_);try clear L
 try clear K
 intro K L;have⟨x0,x1,E,x3,x4⟩:=J.o.bx.cells;rw[<-s.o] at E;have⟨u0,u1,u2,u3,u4,u5,u6,u7⟩:=Bx.bL X0.o;have ap:k<d:=by have:=S0.o;omega
 have ao:v.heap.size<d:=by have:=S0.o;omega
 have am:¬d=k:=by omega
 have av:¬d.heap.size=v:=by omega
 have DA:=Y (show OS d (d.alloc (.cells #[Zs,Zs,Zb 0] 272)).drew from(af).drew);have DB:=Y (show OS d d.drew from(ce _ _).drew);have XA:=Y (show Bx (d.alloc (.cells #[Zs,Zs,Zb 0] 272)).drew d #[Zs,Zs,Zb 0] 272 from Bx.dC d _ _);have BA:=Y (show BL (d.alloc (.cells #[Zs,Zs,Zb 0] 272)).drew q N l by rw[s.o];exact J.o.bl.later DA.o);have BB:=Y (show BL d.drew q N l by rw[s.o];exact J.o.bl.later DB.o);have PA:=Y (J.o.pl.later DA.o);have PB:=Y (J.o.pl.later DB.o);go_region_held3 (λu=>u.cell? ⟨k,0,none⟩=Zb (c:Int)/\u.cell? ⟨k,1,none⟩=Zb (j:Int)/\u.cell? ⟨k,2,none⟩=(q,N,i)/\u.cell? ⟨k,3,none⟩=(p,X,W)/\u.cell? ⟨k,4,none⟩=Zb x/\u.cell? ⟨v,0,none⟩=Za f.z0/\u.cell? ⟨v,1,none⟩=Za f.z1/\u.cell? ⟨v,2,none⟩=Za f.z2/\u.cell? ⟨v,3,none⟩=Za f.z3/\u.cell? ⟨v,4,none⟩=Za f.z4/\u.cell? ⟨v,5,none⟩=Za f.z5/\u.cell? ⟨v,6,none⟩=Za f.z6/\u.cell? ⟨v,7,none⟩=Za f.z7)
  (first
    |with_reducible exact⟨x0,x1,E,x3,x4,u0,u1,u2,u3,u4,u5,u6,u7⟩
    |(simp only[an];with_reducible exact⟨x0,x1,E,x3,x4,u0,u1,u2,u3,u4,u5,u6,u7⟩)
    |with_reducible exact⟨y0,y1,I,y3,y4,v0,v1,v2,R,v4,U,v6,v7⟩
    |(simp only[an,aq ap,aq ao];with_reducible exact⟨x0,x1,E,x3,x4,u0,u1,u2,u3,u4,u5,u6,u7⟩)
    |(simp only[aq al,aq ak];with_reducible exact⟨y0,y1,I,y3,y4,v0,v1,v2,R,v4,U,v6,v7⟩)
    |(simp only[aw am,aw av];with_reducible exact⟨y0,y1,I,y3,y4,v0,v1,v2,R,v4,U,v6,v7⟩))
  (first
    |(go_at_call 210;(with_reducible refine(um i W f BB.o PB.o C.o.l1 C.o.l2 HM.o).mono ?_);rintro ai D ⟨r1,r2,rfl,T,Q,E2⟩;have⟨a1,c1,ae,G,ag⟩:=T.bl;have⟨a2,c2,ab,M,ad⟩:=Q.pl;rw[BB.o.1] at ae G;rw[OC,PB.o.1] at ab M;subst ae;subst ab;have Q1:=Y G;have Q2:=Y M;have G1:=Y ag;have G2:=Y ad;clear G M ag ad T Q;have t:=Y (show OS d D from DB.o.trans (E2.mono DB.o.size));have V:=Y (J.o.later t.o);have⟨y0,y1,I,y3,y4⟩:=V.o.bx.cells;rw[<-s.o] at I;have al:=V.o.bx.lt;have S:=Y (X0.o.later t.o X0.o.lt);have ak:=S.o.lt;have⟨v0,v1,v2,R,v4,U,v6,v7⟩:=Bx.bL S.o)
    |(go_at_call 210;(with_reducible refine(um i W f BA.o PA.o C.o.l1 C.o.l2 HM.o).mono ?_);rintro ai D ⟨r1,r2,rfl,T,Q,E2⟩;have⟨a1,c1,ae,G,ag⟩:=T.bl;have⟨a2,c2,ab,M,ad⟩:=Q.pl;rw[BA.o.1] at ae G;rw[OC,PA.o.1] at ab M;subst ae;subst ab;have Q1:=Y G;have Q2:=Y M;have G1:=Y ag;have G2:=Y ad;clear G M ag ad T Q;have t:=Y (show OS d D from DA.o.trans (E2.mono DA.o.size));have V:=Y (J.o.later t.o);have⟨y0,y1,I,y3,y4⟩:=V.o.bx.cells;rw[<-s.o] at I;have al:=V.o.bx.lt;have S:=Y (X0.o.later t.o X0.o.lt);have ak:=S.o.lt;have⟨v0,v1,v2,R,v4,U,v6,v7⟩:=Bx.bL S.o;have X2:=Y (XA.o.later E2 XA.o.lt);have⟨t0,t1,t2⟩:=X2.o.three;have tz:=X2.o.frozen))
 all_goals
  first
   |(obtain⟨r,A⟩:∃r:W_,H_ (r=D.alloc (.cells #[.slice a1 N c1,.slice a2 (X+1) c2,Zb (less x)] 272)):=⟨_,rfl⟩
     have X3:=bxA A;have F3:=beA A;have D3:=Y (show OS v r from(D0.o.trans (t.o.mono D0.o.size)).trans (F3.o.mono (by have P:=t.o.size;have h9:=S0.o;omega)));have L3:=Y (Q1.o.later F3.o);have P3:=Y (Q2.o.later F3.o);have S1:=Y (show 0<N->∀e,a1=some e->e.block≠k from λ_ e o=>by have P:d.heap.size<=e.block:=G1.o e o;omega);have S2:=Y (show 0<X+1->∀e,a2=some e->e.block≠k from λ_ e o=>by have P:d.heap.size<=e.block:=G2.o e o;omega);have ar:¬k=D:=by have h9:=t.o.size;omega
     rw[<-A.o])
   |(obtain⟨r,A⟩:∃r:W_,H_ (r=cP D d (.slice a1 N c1) (.slice a2 (X+1) c2) (Zb (less x))):=⟨_,rfl⟩
     have X3:=Y (show Bx r d #[.slice a1 N c1,.slice a2 (X+1) c2,Zb (less x)] 272 by rw[A.o];exact X2.o.aN _ _ _);have F3:=Y (show OS d r by rw[A.o];exact aK t.o (OJ _));have D3:=Y (show OS v r from D0.o.trans (F3.o.mono D0.o.size));have U3:=Y (show D.grownBy r (some d) by rw[A.o];exact bI (au _) _ _ _);have L3:=Y (Q1.o.iK U3.o (λ_ e o=>by have P:d.heap.size+1<=e.block:=by {have F:=G1.o e o;simpa using F};omega));have P3:=Y (Q2.o.iK U3.o (λ_ e o=>by have P:d.heap.size+1<=e.block:=by {have F:=G2.o e o;simpa using F};omega));have S1:=Y (show 0<N->∀e,a1=some e->e.block≠k from λ_ e o=>by have P:d.heap.size+1<=e.block:=by {have F:=G1.o e o;simpa using F};omega);have S2:=Y (show 0<X+1->∀e,a2=some e->e.block≠k from λ_ e o=>by have P:d.heap.size+1<=e.block:=by {have F:=G2.o e o;simpa using F};omega);have ar:¬k=d:=by omega
     unfold cP at A;rw[<-A.o])
  have H3:=Y (C.o.later D3.o);rw[s.o] at L3 S1;have HF:=Y (H3.o.put (c1:=c1) (c2:=c2) L3.o P3.o S1.o S2.o (zt C.o.l1) (zr C.o.l2));have GF:=Y (kg (bQ D3.o (H:=some k)) (O:=.slice a1 (sz c) c1) (N:=.slice a2 (X+1) c2) (K:=Zb (less x)));rw[<-s.o] at HF GF;unfold xG at HF GF;clear x0 x1 E x3 x4 u0 u1 u2 u3 u4 u5 u6 u7 y0 y1 I y3 y4 v0 v1 v2 R v4 U v6 v7;go_wp2;refine Met.intro (aj rfl ?_);try clear L
  try clear K
  intro K L;go_wp2;refine Met.intro (aj rfl ?_);try clear L
  try clear K
  intro K L;have⟨x0,x1,E,x3,x4⟩:=H3.o.bx.cells;rw[<-s.o] at E;have xz:=H3.o.bx.frozen;try clear t0 t1 t2
  have⟨t0,t1,t2⟩:=X3.o.three;go_wp2;refine Met.intro (bg (c:=.seq _ .ret) rfl ?_);try clear L
  try clear K
  go_wp2;exact UM (by simp[results,results182,go_sem]) rfl ⟨a1,c1,a2,c2,rfl,HF,GF⟩
theorem lJ(hs:StW v k c j l Z x q i p X W)(e:B8)(hm:cS (sz c) Z x y=4):
 C_ prog 182 #[(k,0),y,e] v λR u=>R=Zv (Zf 4)/\OS v u:=by
 have F:=Y hm;clear hm;have ad:aJ 4=Zf 4:=rfl;have HH:=Y hs;have am:k<v:=Bx.lt hs.bx;have⟨N,s⟩:=ZX (sz c);have⟨d,E⟩:=ZX (v.alloc (.cells e 65));have D:=bxA E;have D0:=beA E;have P:=Y (show d=v.heap.size+1 by rw[E];simp);have o:=Y (HH.later D0);clear hs;rw[<-s] at F;go_enter func182,ntmps182;change aA Tryz.f182 _ 0 _ v;apply aj rfl;intro K G;go_wp2;rw[<-E];refine Met.intro (aj rfl ?_);try clear G
 try clear K
 intro K G;have⟨x0,x1,M,x3,x4⟩:=o.bx.cells;rw[<-s] at M;have⟨u0,u1,u2,u3,u4,u5,u6,u7⟩:=Bx.bL D;have ah:k<d:=by have:=P.o;omega
 have al:v<d.heap.size:=by have:=P.o;omega
 have ak:¬d=k:=by omega
 have ai:¬d=v.heap.size:=by omega
 have S:=Y (show OS d (d.alloc (.cells #[Zs,Zs,Zi] 272)).drew from(af).drew);have I:=Y (show OS d d.drew from(ce _ _).drew);have XA:H_ (Bx (d.alloc (.cells #[Zs,Zs,Zi] 272)).drew d #[Zs,Zs,Zi] 272):=Bx.dC d _ _;have BA:H_ (BL (d.alloc (.cells #[Zs,Zs,Zi] 272)).drew q N l):=(by rw[s];exact o.bl.later S);have BB:H_ (BL d.drew q N l):=(by rw[s];exact o.bl.later I);have PA:=Y (o.pl.later S);have PB:=Y (o.pl.later I);have ag:=Y (show ¬cS N Z x y=0 by rw[F];omega);go_region_held3 (λu=>u.cell? k=Zb (c:Int)/\u.cell? (k,1)=Zb (j:Int)/\u.cell? (k,2)=(q,N,i)/\u.cell? (k,3)=(p,X,W)/\u.cell? (k,4)=Zb x/\u.cell? v=Za e.z0/\u.cell? (v,1)=Za e.z1/\u.cell? (v,2)=Za e.z2/\u.cell? (v,3)=Za e.z3/\u.cell? (v,4)=Za e.z4/\u.cell? (v,5)=Za e.z5/\u.cell? (v,6)=Za e.z6/\u.cell? (v,7)=Za e.z7)
  (first|((try simp only[an,aq ah,aq al]);with_reducible exact⟨x0,x1,M,x3,x4,u0,u1,u2,u3,u4,u5,u6,u7⟩)|((try simp only[aq ae,aq ab,aw ak,aw ai]);with_reducible exact⟨V,y1,C,T,y4,v0,v1,O,J,U,Q,v6,v7⟩))
  (first|(go_at_call 210;(with_reducible refine(uo q i W e (BL.max BB.o) PB.o ag.o).mono ?_);rintro R L ⟨rfl,H⟩;rw[F,ad];have f:=Y (I.t H);have A:=Y (o.later f);have⟨V,y1,C,T,y4⟩:=A.bx.cells;rw[<-s] at C;have ae:=A.bx.lt;have t:=Y (D.later f D.lt);have ab:=t.lt;have⟨v0,v1,O,J,U,Q,v6,v7⟩:=Bx.bL t)|(go_at_call 210;(with_reducible refine(uo q i W e (BL.max BA.o) PA.o ag.o).mono ?_);rintro R L ⟨rfl,H⟩;rw[F,ad];have f:=Y (S.t H);have A:=Y (o.later f);have⟨V,y1,C,T,y4⟩:=A.bx.cells;rw[<-s] at C;have ae:=A.bx.lt;have t:=Y (D.later f D.lt);have ab:=t.lt;have⟨v0,v1,O,J,U,Q,v6,v7⟩:=Bx.bL t;have X2:=Y (XA.later H XA.lt);have⟨t0,t1,t2⟩:=X2.three;have tz:=X2.frozen))
 all_goals
  first
   |(have⟨W3,r⟩:=ZX (L.alloc (.cells #[Zs,Zs,Zi] 272))
     have F3:=beA r;have D3:=Y (show OS v W3 from(D0.t f).trans (F3.mono (by have h8:=f.size;have h9:=P.o;omega)));rw[<-r])
   |(have⟨W3,r⟩:=ZX (cP L d Zs Zs (Zb 0))
     have F3:H_ (OS d W3):=(by rw[r];exact aK f (OJ _));have D3:=Y (D0.t F3);unfold cP at r;rw[<-r])
  clear x0 x1 M x3 x4 u0 u1 u2 u3 u4 u5 u6 u7 V y1 C T y4 v0 v1 O J U Q v6 v7;go_wp2;refine Met.intro (aj rfl ?_);try clear G
  try clear K
  intro K G;go_wp2;exact UM (by simp[results,results182,go_sem]) rfl ⟨rfl,D3⟩
end
namespace Mx
def dK(left:Int)(k:Nat):Int:=if left<0 then left else left - k
theorem mN(left:Int):dK left 0=left:=by unfold dK;split<;>omega
theorem AR:less (dK x k)=if dK x k<0 then dK x k else dK x (k+1):=by
  unfold dK less
  by_cases h:x<0
  · simp only[h,if_true]
  · rw[UX h,UX h]
    by_cases h2:x - (k:Int)<0
    · rw[UY h2,UY h2]
    · rw[UX h2,UX h2]
      omega
theorem iN(h:x<0\/(k:Int)<x):less (dK x k)=dK x (k+1):=by
  rw[AR]
  split
  · unfold dK at*
    by_cases h0:x<0
    · rw[UY h0,UY h0]
    · rw[UX h0] at*
      omega
  · rfl
theorem iM{left:Int}{k:Nat}(h:left<0\/(k:Int)<left):dK left k≠0:=by unfold dK;split<;>omega
theorem gM:dK (k:Int) k=0:=by unfold dK;rw[UX (by omega)];omega
def mB(m n:Nat):V_:=if m=n then Zn else Zf 4
theorem tp(n:Nat):mB n n=Zn:=by unfold mB;rw[UY rfl]
theorem ri(h:k<c):mB k c=Zf 4:=by unfold mB;rw[UX (by omega)]
theorem At(n h:Nat)(c:List B8):dH n h c 0=[]:=rfl
theorem tj(d:db k Z=0)(h:c<k):ct k Z (c:Int)=0:=by
  unfold ct
  rw[UY d,UY (by omega)]
theorem nQ{at_:Nat}(c:db k Z=0)(h:at_<k)(d:Z.length<=700)(h0:x≠0):cS k Z x (at_:Int)=0:=by
  unfold cS
  rw[UY (tj c h),UX (by omega),UX h0]
theorem lu{at_:Nat}(c:db k Z=0)(h:at_<k)(d:Z.length<=700)(h0:x=0):cS k Z x (at_:Int)=4:=by
  unfold cS
  rw[UY (tj c h),UX (by omega),UY h0]
theorem sv(d:k<=32)(e:Z.length<=700)(h:∀p∈Z,0<=p.at_/\p.at_<(sz k:Int)):db (sz k) Z=0:=
  sw (by have:1<=sz k/\sz k<=200:=by {unfold sz;omega};omega) (λf p _ c=>by
    have:=h p (OR c)
    unfold outside
    simp
    omega)
theorem Hg(e:j<=1)(o:k<=c):∀p∈dH c j l k,0<=p.at_/\p.at_<(sz c:Int):=λp d=>by
  obtain⟨i,q,f⟩:=tq d
  have:=nJ (n:=c) e (show i<c by omega)
  omega
theorem ti{n q k:Nat}{bl:List B8}(c:n<=32)(e:q<=1)(d:k<=n):db (sz n) (dH n q bl k)=0:=sv c (by rw[ju];omega) (Hg e d)
end Mx
set_option maxHeartbeats 16000000 in
set_option maxRecDepth 100000 in
theorem FN(hs:StW v k c j l [] x q i p 0 X)(hq:W<=1)(hb:BL v T c M)(ah:0<c->∀av,T=some av->av.block≠k)(hm:U<=c)(ao:U<c->x=(U:Int))(aw:x<0\/(U:Int)<=x):
    C_ prog 180 #[(k,0),Zb (W:Int),(T,c,V)] v λo f=>∃a1 c1 a2 c2,o=Zv (mB U c)/\H_ (StW f k c j l (dH c W M U) (dK x U) a1 c1 a2 U c2)/\H_ (v.grownBy f (some k)):=by
  have HH:=Y hs
  have aJ:=hs.n1
  have ae:=hs.n2
  have HB:=Y hb
  have al:=Y ah
  have ay:=Y ao
  have am:=Y aw
  clear hs hb ah ao aw
  go_enter func180,ntmps180
  change aA Tryz.f180 _ 0 _ v
  refine aj rfl ?_
  intro ag hK
  go_wp2_with fail
  refine Met.intro (aj rfl ?_)
  try clear hK
  try clear ag
  intro ag hK
  go_wp2_with fail
  go_loopw [12] (λak wr=>∃(e:Nat) (a1:Option A_) (c1:Nat) (a2:Option A_) (c2:Nat),ak=Zb (e:Int)/\e<=U/\H_ (StW wr k c j l (dH c W M e) (dK x e) a1 c1 a2 e c2)/\H_ (v.grownBy wr (some k))) (λak _=>c - (intOf ak).toNat)
  case atStart=>exact⟨0,q,i,p,X,rfl,by omega,by rw[At,mN];exact HH,au _⟩
  case round=>
    obtain⟨e,a1,c1,a2,c2,rfl,hk,hS,O⟩:=hrel
    by_cases s:e<c
    · have aG:(e:Int)<c:=by omega
      have aD:=Y (HB.iK O al)
      obtain⟨b,aI,d,ar,aF,hx,e0,e1,e2,e3,e4,e5,e6,e7⟩:=aD.at_ e s
      have HX:=Y (show M.getD e zB=d by rw[Oy,hx];rfl)
      have ah:¬b=k:=al (by omega) _ ar
      subst ar
      clear hx
      obtain⟨ad,hP⟩:∃ad:Nat,H_ (ad=bpl c W e):=⟨_,rfl⟩
      obtain⟨r,ab⟩:∃r:W_,H_ (r=wr.alloc (.cells d 65)):=⟨_,rfl⟩
      have C:=Y (show Bx r wr d 65 by rw[ab];exact Bx.new wr _ _)
      have D1:=Y (show Below wr wr r by rw[ab];exact af)
      have H1:=Y (hS.later D1)
      have ai:=Y (H1.later (ce _ _).drew)
      have aH:k<wr:=hS.bx.lt
      have aE:wr≠k:=by omega
      have aq:ad<sz c:=by rw[hP];exact nJ hq s
      have ap:=Y (ti (bl:=M) ae hq (show e<=c by omega))
      go_upto_region 4 with fail
      rw[<- ab]
      have t:=H1.bx.cells.1
      obtain⟨P,Q,L,u3,S,R,N,u7⟩:=Bx.bL C
      by_cases aK:e<U
      · have HW:=Y (nQ ap aq (by rw[ju];omega) (iM (left:=x) (k:=e) (by rcases am with j|j<;>omega)))
        go_region_held3 (λf=>f.cell? k=some (.int .i64 (c:Int))/\f.cell? wr=some (.int .u8 d.z0)/\f.cell? (wr,1)=some (.int .u8 d.z1)/\f.cell? (wr,2)=some (.int .u8 d.z2)/\f.cell? (wr,3)=some (.int .u8 d.z3)/\f.cell? (wr,4)=some (.int .u8 d.z4)/\f.cell? (wr,5)=some (.int .u8 d.z5)/\f.cell? (wr,6)=some (.int .u8 d.z6)/\f.cell? (wr,7)=some (.int .u8 d.z7))
          (first|((try simp only[an]);first|with_reducible exact⟨t,P,Q,L,u3,S,R,N,u7⟩|with_reducible exact⟨y0,G,I,H,u,E,A,K,J⟩))
          (first|(go_at_call 175;refine(oz k (by first|exact t|(simp only[an];exact t)) ae hq s).mono ?_;rintro o wz ⟨rfl,F⟩;obtain rfl:=F.symm;clear F;rw[<- hP])|(go_at_call 182;(with_reducible refine(oG ai.o d HW.o).mono ?_);rintro o z ⟨a3,c3,a4,c4,rfl,D,G2⟩;have y0:=D.bx.cells.1;have X2:=Y (show Bx z wr d 65 from(G2.block _ C.lt (λo=>aE (OG o))).trans C);obtain⟨G,I,H,u,E,A,K,J⟩:=Bx.bL X2))
        all_goals
          have HN:=Y (show StW z k c j l (dH c W M (e+1)) (dK x (e+1)) a3 c3 a4 (e+1) c4 by rw[rj,HX,<- hP,<- iN (by rcases am with j|j<;>omega)];exact D)
          have GN:=Y (O.trans ((bQ D1).trans ((cZ (au r)).trans G2)))
          clear e0 e1 e2 e3 e4 e5 e6 e7 P Q L u3 S R N u7 G I H u E A K J
          go_wp2_with fail
          exact⟨⟨e+1,a3,c3,a4,c4,by go_num,by omega,HN,GN⟩,by simp[intOf];omega⟩
      · have aB:e=U:=by omega
        subst aB
        have aC:=Y (show dK x e=0 by rw[ay s];exact gM)
        have HW:=Y (lu ap aq (by rw[ju];omega) aC)
        go_region_held3 (λf=>f.cell? k=some (.int .i64 (c:Int))/\f.cell? wr=some (.int .u8 d.z0)/\f.cell? (wr,1)=some (.int .u8 d.z1)/\f.cell? (wr,2)=some (.int .u8 d.z2)/\f.cell? (wr,3)=some (.int .u8 d.z3)/\f.cell? (wr,4)=some (.int .u8 d.z4)/\f.cell? (wr,5)=some (.int .u8 d.z5)/\f.cell? (wr,6)=some (.int .u8 d.z6)/\f.cell? (wr,7)=some (.int .u8 d.z7))
          (first|((try simp only[an]);first|with_reducible exact⟨t,P,Q,L,u3,S,R,N,u7⟩|with_reducible exact⟨y0,G,I,H,u,E,A,K,J⟩))
          (first|(go_at_call 175;refine(oz k (by first|exact t|(simp only[an];exact t)) ae hq s).mono ?_;rintro o wz ⟨rfl,F⟩;obtain rfl:=F.symm;clear F;rw[<- hP])|(go_at_call 182;(with_reducible refine(lJ ai.o d HW.o).mono ?_);rintro o z ⟨rfl,E2⟩;have D:=Y (ai.later E2);have y0:=D.bx.cells.1;have X2:H_ (Bx z wr d 65):=(Bx.Ar C).later E2 (Bx.Ar C).lt;obtain⟨G,I,H,u,E,A,K,J⟩:=Bx.bL X2))
        all_goals
          have GN:=Y (show v.grownBy z (some k) from O.trans ((bQ D1).trans ((cZ (au r)).trans (bQ E2))))
          clear e0 e1 e2 e3 e4 e5 e6 e7 P Q L u3 S R N u7 G I H u E A K J
          go_wp2_with fail
          exact UM (v:=Zf 4) (by simp[results,results180,go_sem]) rfl ⟨a1,c1,a2,c2,by rw[ri s],D,GN⟩
    · have ax:e=c:=by omega
      subst ax
      have az:U=e:=by omega
      subst az
      go_wp2_with fail
      refine Met.intro (bg (c:=.seq _ .ret) rfl ?_)
      try clear hK
      try clear ag
      go_wp2_with fail
      exact UM (v:=Zn) (by simp[results,results180,go_sem]) rfl ⟨a1,c1,a2,c2,by rw[tp],hS,O⟩
theorem J5(hs:StW v i X W l [] x q V p 0 U)(C:S<=1)(t:BL v T X M)(u:0<X->∀d,T=some d->d.block≠i)(D:P<=X)(s:P<X->x=(P:Int))(f:x<0\/(P:Int)<=x)(c4:v.cell? k=(i,0))(E:v.cell? c=Zb (S:Int))(G:v.cell? j=(T,X,Q)):
 C_ prog 179 #[(k,0),(c,0),(j,0)] v λo e=>∃a1 c1 a2 c2,o=Zv (mB P X)/\H_ (StW e i X W l (dH X S M P) (dK x P) a1 c1 a2 P c2)/\H_ (v.grownBy e (some i)):=by
 have r:=Y (FN hs C (V:=Q) t u D s f);clear hs t u s f;go_enter func179,ntmps179;change aA Tryz.f179 _ 0 _ v;refine aj rfl ?_;intro K y;go_wp2_with fail;refine Met.intro (bg (c:=.seq _ .ret) rfl ?_);try clear y
 try clear K
 go_wp2_with fail;refine r.mono ?_;rintro o F ⟨a1,c1,a2,c2,rfl,z,A⟩;clear r;go_wp2_with fail;exact UM (by simp[results,results179,go_sem]) rfl ⟨a1,c1,a2,c2,rfl,z,A⟩
theorem StW.Ov(hs:StW v k c j l Z x q i p X W)(d:V<=1):StW (v.setCell (k,1) (Zb (V:Int))) k c V l Z x q i p X W:=
 {bx:=Bx.set hs.bx 1 _,bl:=hs.bl.iK (ak (au _) _ _) hs.a1,pl:=hs.pl.iK (ak (au _) _ _) hs.a2,a1:=hs.a1,a2:=hs.a2,n1:=hs.n1,n2:=hs.n2,h1:=d,l1:=hs.l1,l2:=hs.l2}
theorem J6(hs:StW v j i X l Z x q W p V U)(s:S<=1)(c4:v.cell? k=(j,0))(u:v.cell? c=Zb (S:Int)):
 C_ prog 186 #[(c,0),(k,0)] v λf e=>f=Zv Zn/\H_ (StW e j i S l Z x q W p V U)/\H_ (v.grownBy e (some j)):=by
 have r:=Y (hs.Ov s);have o:H_ (v.grownBy (v.setCell (j,1) (Zb (S:Int))) (some j)):=ak (au _) _ _;have⟨D,y,z,C,A⟩:=hs.bx.cells;have t:=hs.bx.frozen;clear hs;go_enter func186,ntmps186;change aA Tryz.f186 _ 0 _ v;apply aj rfl;intro K d;go_wp2;refine Met.intro (aj rfl ?_);try clear d
 try clear K
 intro K d;go_wp2;refine Met.intro (bg (c:=.seq _ .ret) rfl ?_);try clear d
 try clear K
 go_wp2;exact UM (by simp[results,results186,go_sem]) rfl ⟨rfl,r,o⟩
theorem LV(hs:StW v j i X l Z x q W p V U)(u:S<=1)(f:cS (sz i) Z x 0=0)(c4:v.cell? k=(j,0))(A:v.cell? c=Zb (S:Int)):
 C_ prog 185 #[(k,0),(c,0)] v λe o=>∃a1 c1 a2 c2,e=Zv Zn/\H_ (StW o j i X l (Z++[⟨0,⟨(S:Int),0,0,0,0,0,0,0⟩⟩]) (less x) a1 c1 a2 (V+1) c2)/\H_ (v.grownBy o (some j)):=by
 have d:=Y (oG hs ⟨(S:Int),0,0,0,0,0,0,0⟩ f);clear hs f;have z:IntKind.u8.wrap (S:Int)=(S:Int):=by
  match S,u with
  |0,_=>rfl
  |1,_=>rfl
 go_enter func185,ntmps185;change aA Tryz.f185 _ 0 _ v;refine aj rfl ?_;intro K r;go_wp2_with fail;refine Met.intro (bg (c:=.seq _ .ret) rfl ?_);try clear r
 try clear K
 go_wp2_with fail;refine d.mono ?_;rintro e C ⟨a1,c1,a2,c2,rfl,s,t⟩;clear d;go_wp2_with fail;exact UM (by simp[results,results185,go_sem]) rfl ⟨rfl,⟨a1,c1,a2,c2,s⟩,t⟩
def Jz(w:W_)(e:Ending)(w':W_):Prop:=e=Zv (Zf 4)/\OS w w'
theorem GD(hs:StW v j i X l Z x q W p V U)(s:S<=1)(d:cS (sz i) Z x 0=4)(c4:v.cell? k=(j,0))(z:v.cell? c=Zb (S:Int)):
 C_ prog 185 #[(k,0),(c,0)] v (Jz v):=by
 have o:=Y hs;have r:=Y d;clear hs d;have t:IntKind.u8.wrap (S:Int)=(S:Int):=by
  match S,s with
  |0,_=>rfl
  |1,_=>rfl
 go_enter func185,ntmps185;change aA Tryz.f185 _ 0 _ v;refine aj rfl ?_;intro K f;go_wp2;refine Met.intro (bg (c:=.seq _ .ret) rfl ?_);try clear f
 try clear K
 go_wp2_with fail;refine(lJ o ⟨(S:Int),0,0,0,0,0,0,0⟩ r).mono ?_;rintro u A ⟨rfl,e⟩;go_wp2;exact UM (by simp[results,results185,go_sem]) rfl ⟨rfl,e⟩
theorem LS(hs:StW v X W V l Z x q U p S Q)(hq:P<=1)(al:0<=y)(af:y<=2147483647)(am:0<=z)(ab:z<=2147483647)(R:cS (sz W) Z x ((npl W P:Nat):Int)=0)(c4:v.cell? k=(X,0))(A:v.cell? c=Zb (P:Int))(D:v.cell? j=Zb y)(G:v.cell? i=Zb z)(ao:k<v)(ah:c<v)(ai:j<v)(ae:i<v)(n4:k≠X)(ad:c≠X)(n6:j≠X)(n7:i≠X):
 C_ prog 181 #[(k,0),(c,0),(j,0),(i,0)] v λe f=>∃a1 c1 a2 c2,e=Zv Zn/\H_ (StW f X W V l (Z++[⟨((npl W P:Nat):Int),eH y z⟩]) (less x) a1 c1 a2 (S+1) c2)/\H_ (v.grownBy f (some X)):=by
 have K:=Y R;clear R;have HH:=Y hs;have ag:=hs.n2;have s:=hs.bx.cells.1;have ap:X<v:=hs.bx.lt;clear hs;have⟨aq,F⟩:=ZX (npl W P);obtain⟨I,hx⟩:∃I:B8,H_ (I=eH y z):=⟨_,rfl⟩;rw[<-F] at K;go_enter func181,ntmps181;change aA Tryz.f181 _ 0 _ v;apply aj rfl;intro ak hK;go_wp2;refine Met.intro (bg (c:=.seq _ .ret) rfl ?_);try clear hK
 try clear ak
 go_upto_region 1 with fail;go_region_held3 (λf=>f.cell? X=Zb (W:Int)/\f.cell? k=(X,0)/\f.cell? c=Zb (P:Int)/\f.cell? j=Zb y/\f.cell? i=Zb z)
  (first|((try simp only[an]);first|with_reducible exact⟨s,c4,A,D,G⟩|with_reducible exact⟨T,E,C,u,t⟩|with_reducible exact⟨J,f4,O,L,N⟩))
  (first|(go_at_call 162;refine(fQ X (by first|exact s|(simp only[an];exact s)) ag hq).mono ?_;rintro e wz ⟨rfl,hz⟩;obtain rfl:=hz.symm;clear hz;rw[<-F])|(go_at_call 183;(with_reducible refine(rU v.drew al af am ab hx.o).mono ?_);rintro e w2 ⟨rfl,E2⟩;have o:=Y (show OS v w2 from(ce _ _).drew.trans E2);have M:=Y (HH.later o);have T:=M.bx.cells.1;have E:=(o.cell (p:=k) ao).trans c4;have C:=(o.cell (p:=c) ah).trans A;have u:=(o.cell (p:=j) ai).trans D;have t:=(o.cell (p:=i) ae).trans G)|(go_at_call 182;(with_reducible refine(oG M.o I K.o).mono ?_);rintro e w3 ⟨a3,c3,a5,c5,rfl,H,r⟩;have J:=H.bx.cells.1;have f4:=(r.cell E (λe=>n4 (OG e)));have O:=(r.cell C (λe=>ad (OG e)));have L:=(r.cell u (λe=>n6 (OG e)));have N:=(r.cell t (λe=>n7 (OG e)))))
 all_goals
  have GN:=Y (show v.grownBy w3 (some X) from(bQ o).trans r);rw[F,hx] at H;clear s c4 A D G T E C u t J f4 O L N;go_wp2;exact UM (by simp[results,results181,go_sem]) rfl ⟨a3,c3,a5,c5,rfl,H,GN⟩
theorem GC(hs:StW v X W V l Z x q U p S Q)(hq:P<=1)(al:0<=y)(af:y<=2147483647)(am:0<=z)(ab:z<=2147483647)(R:cS (sz W) Z x ((npl W P:Nat):Int)=4)(c4:v.cell? k=(X,0))(A:v.cell? c=Zb (P:Int))(E:v.cell? j=Zb y)(I:v.cell? i=Zb z)(ao:k<v)(ah:c<v)(ai:j<v)(ae:i<v)(n4:k≠X)(ad:c≠X)(n6:j≠X)(n7:i≠X):
 C_ prog 181 #[(k,0),(c,0),(j,0),(i,0)] v (Jz v):=by
 have L:=Y R;clear R;have HH:=Y hs;have ag:=hs.n2;have r:=hs.bx.cells.1;have ap:X<v:=hs.bx.lt;clear hs;have⟨aq,hP⟩:=ZX (npl W P);obtain⟨J,hx⟩:∃J:B8,H_ (J=eH y z):=⟨_,rfl⟩;rw[<-hP] at L;go_enter func181,ntmps181;change aA Tryz.f181 _ 0 _ v;apply aj rfl;intro ak hK;go_wp2;refine Met.intro (bg (c:=.seq _ .ret) rfl ?_);try clear hK
 try clear ak
 go_upto_region 1 with fail;go_region_held3 (λo=>o.cell? X=Zb (W:Int)/\o.cell? k=(X,0)/\o.cell? c=Zb (P:Int)/\o.cell? j=Zb y/\o.cell? i=Zb z)
  (first|((try simp only[an]);with_reducible exact⟨r,c4,A,E,I⟩)|with_reducible exact⟨T,G,D,u,t⟩|with_reducible exact⟨K,f4,O,M,N⟩)
  (first|(go_at_call 162;refine(fQ X (by first|exact r|(simp only[an];exact r)) ag hq).mono ?_;rintro e wz ⟨rfl,hz⟩;obtain rfl:=hz.symm;clear hz;rw[<-hP])|(go_at_call 183;(with_reducible refine(rU v.drew al af am ab hx.o).mono ?_);rintro e w2 ⟨rfl,E2⟩;have f:=Y (show OS v w2 from(ce _ _).drew.trans E2);have C:=Y (HH.later f);have T:=C.bx.cells.1;have G:=(f.cell (p:=k) ao).trans c4;have D:=(f.cell (p:=c) ah).trans A;have u:=(f.cell (p:=j) ai).trans E;have t:=(f.cell (p:=i) ae).trans I)|(go_at_call 182;(with_reducible refine(lJ C.o J L.o).mono ?_);rintro e w3 ⟨rfl,F⟩;have s:=Y (bQ F (H:=some X));have K:=(C.later F).bx.cells.1;have f4:=(s.cell G (λe=>n4 (OG e)));have O:=(s.cell D (λe=>ad (OG e)));have M:=(s.cell u (λe=>n6 (OG e)));have N:=(s.cell t (λe=>n7 (OG e)))))
 all_goals
  have DN:=Y (f.t F);clear r c4 A E I T G D u t K f4 O M N;go_wp2;exact UM (by simp[results,results181,go_sem]) rfl ⟨rfl,DN⟩
theorem Ou(hs:StW v k c j l Z x q i p X W)(A:c<V):
 C_ prog 177 #[(k,0),(T,V,U),y,z] v λe s=>e=Zv (Zf 2)/\s=v:=by
 have u:(c:Int)<V:=by omega
 have E:=Y hs;have r:=hs.n1;have D:=hs.n2;have t:k<v:=Bx.lt hs.bx;have o:=hs.bx.cells.1;clear hs;go_enter func177,ntmps177;change aA Tryz.f177 _ 0 _ v;refine aj rfl ?_;intro K d;go_wp2;refine Met.intro (aj rfl ?_);try clear d
 try clear K
 intro K d;go_wp2_with fail;refine(gH o r).mono ?_;rintro e C ⟨rfl,f⟩;obtain rfl:=f.symm;clear f;go_wp2;refine Met.intro (aj rfl ?_);try clear d
 try clear K
 intro K d;go_wp2;exact UM (by simp[results,results177,go_sem]) rfl ⟨rfl,rfl⟩
theorem Ow(hs:StW v k c j l Z x q i p X W)(D:V<=c)(o:min y z<0\/2147483647<max y z):
 C_ prog 177 #[(k,0),(T,V,U),y,z] v λe u=>e=Zv (Zf 1)/\u=v:=by
 have C:¬(c:Int)<V:=by omega
 have r:=Y o;clear o;have H:=Y hs;have t:=hs.n1;have F:=hs.n2;have A:k<v:=Bx.lt hs.bx;have s:=hs.bx.cells.1;clear hs;go_enter func177,ntmps177;change aA Tryz.f177 _ 0 _ v;refine aj rfl ?_;intro K d;go_wp2;refine Met.intro (aj rfl ?_);try clear d
 try clear K
 intro K d;go_wp2_with fail;refine(gH s t).mono ?_;rintro e E ⟨rfl,f⟩;obtain rfl:=f.symm;clear f;go_wp2;refine Met.intro (aj rfl ?_);try clear d
 try clear K
 intro K d;go_wp2;refine Met.intro (aj rfl ?_);try clear d
 try clear K
 intro K d;go_wp2;all_goals first
  |exact UM (by simp[results,results177,go_sem]) rfl ⟨rfl,rfl⟩
  |(exfalso;have G:=r.o;omega)
def Mx.ccV(n:Nat)(us:List Pt):V_:=if us.all (λp=>inside n p.at_)=true then Zn else Zf 1
theorem Mx.yX(e:Z[k]?=G)(d:inside c G.at_=false):ccV c Z=Zf 1:=by
 unfold ccV;rw[UX];intro h;rw[Nm] at h;have h1:=h G (OR e);rw[d] at h1;cases h1
theorem Mx.LR(h:∀(i:Nat) (p:Pt),Z[i]?=p->inside k p.at_=true):ccV k Z=Zn:=by
 unfold ccV;rw[UY];rw[Nm];intro p c;have⟨i,d⟩:=Tv c;exact h i p d
theorem Ja(hs:StW v k c j l Z x q i p X W)(O:PL v T V D)(al:V<=c)(ar:0<=y)(am:y<=2147483647)(au:0<=z)(ah:z<=2147483647):
 C_ prog 177 #[(k,0),(T,V,U),y,z] v λA S=>A=Zv (ccV c D)/\H_ (OS v S):=by
 have ap:¬(c:Int)<V:=by omega
 have P:=Y O;clear O;have M:=Y hs;have ae:=hs.n1;have an:=hs.n2;have ag:k<v:=Bx.lt hs.bx;have x0:=hs.bx.cells.1;clear hs;go_enter func177,ntmps177;change aA Tryz.f177 _ 0 _ v;refine aj rfl ?_;intro K o;go_wp2_with fail;refine Met.intro (aj rfl ?_);try clear o
 try clear K
 intro K o;go_wp2_with fail;refine(gH x0 ae).mono ?_;rintro A wz ⟨rfl,r⟩;obtain rfl:=r.symm;clear r;go_wp2_with fail;refine Met.intro (aj rfl ?_);try clear o
 try clear K
 intro K o;go_wp2_with fail;refine Met.intro (aj rfl ?_);try clear o
 try clear K
 intro K o;have e1:decide (y<0)=false:=by simp;omega
 have e2:decide (z<0)=false:=by simp;omega
 have e3:decide (2147483647<y)=false:=by simp;omega
 have e4:decide (2147483647<z)=false:=by simp;omega
 go_wp2_with fail;all_goals first
  |(exfalso;omega)
  |skip
 all_goals
  refine Met.intro (aj rfl ?_);try clear o
  try clear K
  intro K o;go_wp2_with fail;go_loopw [38] (λF wr=>∃f:Nat,F=Zb (f:Int)/\f<=V/\H_ (∀(d:Nat) (e:Pt),d<f->D[d]?=e->inside c e.at_=true)/\H_ (OS v wr)) (λF _=>V-(intOf F).toNat)
  case atStart=>exact⟨0,rfl,by omega,λd e t _=>absurd t (by omega),ce _ _⟩
  case round=>
   obtain⟨f,rfl,hk,J,s⟩:=hrel;by_cases af:f<V
   ·have ak:(f:Int)<V:=by omega
    have⟨bb,aq,e,ad,ai,I,c0,c1,c2,c3,c4,c5,c6,c7,c8⟩:=(P.later s).at_ f af;subst ad;have L:=Y I;clear I;have N:=Y (M.later s);have y0:=N.bx.cells.1;have ao:k<wr:=N.bx.lt;have⟨W1,H⟩:=ZX (wr.alloc (.cells (Zq e.at_ e.d) 123));have G:H_ (OS v W1):=(by rw[H];exact s.alloc s.size _);have R:=(M.later G).bx.cells.1;go_wp2_with fail;rw[<-H];refine(qt e.at_ R).mono ?_;rintro A wz ⟨rfl,r⟩;obtain rfl:=r.symm;clear r c0 c1 c2 c3 c4 c5 c6 c7 c8;by_cases E:inside c e.at_=true
    ·have HN:=Y (show ∀(d:Nat) (u:Pt),d<f+1->D[d]?=u->inside c u.at_=true from λd u t C=>by
      by_cases he:d=f
      ·subst he
       rw[L] at C;cases C
       exact E
      ·exact J d u (by omega) C)
     rw[E];go_wp2_with fail;exact⟨⟨f+1,by go_num,by omega,HN,G⟩,by simp[intOf];omega⟩
    ·have Q:inside c e.at_=false:=by simpa using E
     have HV:=Y (yX L Q);rw[Q];go_wp2_with fail;exact UM (v:=Zf 1) (by simp[results,results177,go_sem]) rfl ⟨by rw[HV],G⟩
   ·have ab:f=V:=by omega
    subst ab;go_wp2_with fail;refine Met.intro (bg (c:=.seq _ .ret) rfl ?_);try clear o
    try clear K
    go_wp2_with fail;exact UM (v:=Zn) (by simp[results,results177,go_sem]) rfl ⟨by rw[LR (λd e t=>J d e (by have h9:=(OI.1 t).1;have h8:=P.1;omega) t)],s⟩
theorem Lj(h0:F 0 v)(s:∀(d:Nat) (e:W_),d<6->F d e->∃i p q,e.cell? (k,d)=some (.func (.func i) p q)/\(∀(u:Array V_) (W:W_),(callFunc i u).run prog W=.ok (.enter i u) W)/\C_ prog i (p++q) e (λf r=>(f=Zv Zn/\F (d+1) r)\/(f=Zv (Zf 4)/\E r))):
 C_ prog 178 #[(k,6,6)] v λf e=>(f=Zv Zn/\F 6 e)\/(f=Zv (Zf 4)/\E e):=by
 have C:=Y s;have z:=Y h0;clear s h0;go_enter func178,ntmps178;change aA Tryz.f178 _ 0 _ v;apply aj rfl;intro K l;go_wp2;refine Met.intro (aj rfl ?_);try clear l
 try clear K
 intro K l;go_wp2;go_loopw [8] (λt wr=>∃d:Nat,t=Zb (d:Int)/\d<=6/\H_ (F d wr)) (λt _=>6-(intOf t).toNat)
 case atStart=>exact⟨0,rfl,by omega,z⟩
 case round=>
  obtain⟨d,rfl,I,x⟩:=hrel;by_cases A:d<6
  ·have⟨i,p,q,hc,H,y⟩:=C d wr A x;have D:=Y y;clear y;have J:(d:Int)<6:=by omega
   go_wp2;apply D.mono;rintro f G (⟨rfl,j⟩|⟨rfl,j⟩)
   ·have o:=Y j;clear j;go_wp2;exact⟨⟨d+1,by go_num,by omega,o⟩,by simp[intOf];omega⟩
   ·have o:=Y j;clear j;go_wp2;exact UM (by simp[results,results178,go_sem]) rfl (.inr ⟨rfl,o⟩)
  ·obtain rfl:d=6:=by omega
   go_wp2;refine Met.intro (bg (c:=.seq _ .ret) rfl ?_);try clear l
   try clear K
   go_wp2;exact UM (by simp[results,results178,go_sem]) rfl (.inl ⟨rfl,x⟩)
def Mx.Nc(n q:Nat)(ls bl:List B8)(a b:Int)(ls':List B8)(ps':List Pt):Prop:=
 (ls'=ls/\((∃m,m<=n/\ps'=dH n q bl m)\/ps'=gq n q bl a b))\/(ls'=aH ls (gq n q bl a b)/\(ps'=[]\/ps'=[j4 q]))
theorem Mx.Io(n q:Nat)(c:List B8)(a b:Int):(gq n q c a b).length=n+1:=by unfold gq;rw[OC,ju];rfl
theorem Mx.zD{n q:Nat}{bl:List B8}{a b:Int}(c:q<=1):∀p∈gq n q bl a b,0<=p.at_/\p.at_<(sz n:Int):=λp d=>by
 rcases Kw d with ⟨i,f,e⟩|e
 ·have h1:=nJ c f
  omega
 ·have h1:=rH (n:=n) c
  omega
theorem Mx.GX{n q:Nat}{bl:List B8}{a b:Int}(c:n<=32)(d:q<=1):db (sz n) (gq n q bl a b)=0:=sv c (by rw[Io];omega) (zD d)
theorem Mx.Da{n q:Nat}(d:n<=32):db (sz n) [j4 q]=0:=sv d (by simp) (λp c=>by
 simp at c;subst c;refine⟨Ug 0,?_⟩;show(0:Int)<_
 unfold sz;omega)
theorem Mx.oX(d:db k Z=0)(c:x≠0):ep k Z x=0:=by unfold ep;rw[UY d,UX c]
def Sst(w0:W_)(g n h:Nat)(ls:List B8)(ps:List Pt)(left:Int)(L:Nat)(w:W_):Prop:=
 ∃a1 c1 a2 pn c2,StW w g n h ls ps (dK left L) a1 c1 a2 pn c2/\w0.grownBy w (some g)/\(left<0\/(L:Int)<=left)
def Sdd(w0:W_)(g n h q:Nat)(ls bl:List B8)(a b left:Int)(w:W_):Prop:=
 ∃ls' ps' a1 c1 a2 pn c2,StW w g n h ls' ps' 0 a1 c1 a2 pn c2/\w0.grownBy w (some g)/\Nc n q ls bl a b ls' ps'/\0<=left
structure Cmt (w0:W_) (r g n h q:Nat) (p4 p6 p7 p10 p14:Nat) (ba:Option A_) (bc:Nat) (bl:List B8) (a b:Int):Prop where
 r0:w0.cell? ⟨r,0,none⟩=some (.func (.func 179) #[] #[.pointer (some ⟨p4,0,none⟩),.pointer (some ⟨p14,0,none⟩),.pointer (some ⟨p10,0,none⟩)])
 r1:w0.cell? ⟨r,1,none⟩=some (.func (.func 181) #[] #[.pointer (some ⟨p4,0,none⟩),.pointer (some ⟨p14,0,none⟩),.pointer (some ⟨p6,0,none⟩),.pointer (some ⟨p7,0,none⟩)])
 r2:w0.cell? ⟨r,2,none⟩=some (.func (.func 184) #[.pointer (some ⟨g,0,none⟩)] #[])
 r3:w0.cell? ⟨r,3,none⟩=some (.func (.func 185) #[] #[.pointer (some ⟨p4,0,none⟩),.pointer (some ⟨p14,0,none⟩)])
 r4:w0.cell? ⟨r,4,none⟩=some (.func (.func 184) #[.pointer (some ⟨g,0,none⟩)] #[])
 r5:w0.cell? ⟨r,5,none⟩=some (.func (.func 186) #[] #[.pointer (some ⟨p14,0,none⟩),.pointer (some ⟨p4,0,none⟩)])
 c4:w0.cell? ⟨p4,0,none⟩=some (.pointer (some ⟨g,0,none⟩))
 c6:w0.cell? ⟨p6,0,none⟩=some (.int .i64 a)
 c7:w0.cell? ⟨p7,0,none⟩=some (.int .i64 b)
 c10:w0.cell? ⟨p10,0,none⟩=some (.slice ba n bc)
 c14:w0.cell? ⟨p14,0,none⟩=some (.int .i64 (q:Int))
 rg:r≠g
 n4:p4≠g
 n6:p6≠g
 n7:p7≠g
 n10:p10≠g
 n14:p14≠g
 l4:p4<w0.heap.size
 l6:p6<w0.heap.size
 l7:p7<w0.heap.size
 l14:p14<w0.heap.size
 hb:BL w0 ba n bl
 hbg:0<n->∀p,ba=some p->p.block≠g
 hq:q<=1
 ha0:0<=a
 ha1:a<=2147483647
 hb0:0<=b
 hb1:b<=2147483647
def Mx.CI(w0:W_)(g n h q:Nat)(ls bl:List B8)(a b left:Int)(k:Nat):W_->Prop:=
 match k with
 |0=>Sst w0 g n h ls [] left 0
 |1=>Sst w0 g n h ls (dH n q bl n) left n
 |2=>Sst w0 g n h ls (gq n q bl a b) left (n+1)
 |3=>Sst w0 g n h (aH ls (gq n q bl a b)) [] left (n+2)
 |4=>Sst w0 g n h (aH ls (gq n q bl a b)) [j4 q] left (n+3)
 |5=>Sst w0 g n h (aH (aH ls (gq n q bl a b)) [j4 q]) [] left (n+4)
 |_=>Sst w0 g n q (aH (aH ls (gq n q bl a b)) [j4 q]) [] left (n+4)
section
variable {g n h:Nat}{a b:Int}
theorem Md(C:Cmt u k g n h c j i X W V q U M a b)(O:CI u g n h c l M a b x 0 v):
 C_ prog 179 #[(j,0),(V,0),(W,0)] v (λe o=>(e=Zv Zn/\CI u g n h c l M a b x 1 o)\/(e=Zv (Zf 4)/\Sdd u g n h c l M a b x o)):=by
 have⟨a1,c1,a2,L,c2,f,d,R⟩:=O;rw[mN] at f;have J:L=0:=f.pl.1.symm;subst J;obtain⟨m,H,G,D⟩:∃m:Nat,m<=n/\(m<n->x=(m:Int))/\(x<0\/(m:Int)<=x):=by
  by_cases h0:x<0
  ·exact⟨n,OJ _,λr=>absurd r (by omega),.inl h0⟩
  ·by_cases h1:(n:Int)<=x
   ·exact⟨n,OJ _,λr=>absurd r (by omega),.inr h1⟩
   ·exact⟨x.toNat,by omega,λ_=>by omega,.inr (by omega)⟩
 apply(J5 f C.hq (C.hb.iK d C.hbg) C.hbg H G D (d.cell C.c4 (λe=>C.n4 (OG e))) (d.cell C.c14 (λe=>C.n14 (OG e))) (d.cell C.c10 (λe=>C.n10 (OG e)))).mono;rintro e o ⟨F,A,t,I,rfl,E,y⟩;by_cases N:m=n
 ·subst N;rw[tp];exact .inl ⟨rfl,F,A,t,m,I,E,d.trans y,D⟩
 ·have s:m<n:=by omega
  rw[ri s];have K:=G s;have z:=E.o;rw[K,gM] at z;exact .inr ⟨rfl,l,_,F,A,t,m,I,z,d.trans y,.inl ⟨rfl,.inl ⟨m,H,rfl⟩⟩,by omega⟩
theorem Me(C:Cmt u k g n h c j i X W V q U M a b)(hw:CI u g n h c l M a b x 1 v):
 C_ prog 181 #[(j,0),(V,0),(i,0),(X,0)] v (λe r=>(e=Zv Zn/\CI u g n h c l M a b x 2 r)\/(e=Zv (Zf 4)/\Sdd u g n h c l M a b x r)):=by
 have⟨a1,c1,a2,N,c2,f,d,L0⟩:=hw;have o:=d.size;have t:=ti (n:=n) (q:=c) (k:=n) (bl:=M) f.n2 C.hq (OJ _);have G:(dH n c M n).length<=700:=by rw[ju];have:=f.n2;omega
 have O:=d.cell C.c4 (λe=>C.n4 (OG e));have E:=d.cell C.c14 (λe=>C.n14 (OG e));have L:=d.cell C.c6 (λe=>C.n6 (OG e));have H:=d.cell C.c7 (λe=>C.n7 (OG e));have s:j<v:=OE C.l4 o;have A:i<v:=OE C.l6 o;have I:X<v:=OE C.l7 o;have D:V<v:=OE C.l14 o;by_cases F:x<0\/(n:Int)<x
 ·apply(LS f C.hq C.ha0 C.ha1 C.hb0 C.hb1 (nQ t (rH C.hq) G (iM F)) O E L H s D A I C.n4 C.n14 C.n6 C.n7).mono;rintro e r ⟨x1,d1,T,d2,rfl,H1,Z⟩;have J:=H1.o;rw[iN F] at J;exact .inl ⟨rfl,x1,d1,T,N+1,d2,J,d.trans Z,by omega⟩
 ·have R:x=(n:Int):=by omega
  rw[R,gM] at f;apply(GC f C.hq C.ha0 C.ha1 C.hb0 C.hb1 (lu t (rH C.hq) G rfl) O E L H s D A I C.n4 C.n14 C.n6 C.n7).mono;rintro e r ⟨rfl,K⟩;exact .inr ⟨rfl,l,_,a1,c1,a2,N,c2,f.later K,d.trans (bQ K),.inl ⟨rfl,.inl ⟨n,OJ _,rfl⟩⟩,by omega⟩
theorem Mf(C:Cmt u k g n h c j i X W V q U M a b)(H:CI u g n h c l M a b x 2 v):
 C_ prog 184 #[(g,0)] v (λf e=>(f=Zv Zn/\CI u g n h c l M a b x 3 e)\/(f=Zv (Zf 4)/\Sdd u g n h c l M a b x e)):=by
 have⟨a1,c1,a2,E,c2,d,r,I⟩:=H;have o:=GX (n:=n) (q:=c) (bl:=M) (a:=a) (b:=b) d.n2 C.hq;by_cases s:x<0\/((n+1:Nat):Int)<x
 ·apply(uh d (oX o (iM s))).mono;rintro f e ⟨G,D,rfl,F,A⟩;have t:=F.o;rw[iN s] at t;exact .inl ⟨rfl,G,D,none,0,0,t,r.trans A,by omega⟩
 ·have z:x=((n+1:Nat):Int):=by omega
  rw[z,gM] at d;apply(pD d o rfl).mono;rintro f e ⟨rfl,y⟩;exact .inr ⟨rfl,l,_,a1,c1,a2,E,c2,d.later y,r.trans (bQ y),.inl ⟨rfl,.inr rfl⟩,by omega⟩
theorem Mg(C:Cmt u k g n h c j i X W V q U M a b)(N:CI u g n h c l M a b x 3 v):
 C_ prog 185 #[(j,0),(V,0)] v (λe o=>(e=Zv Zn/\CI u g n h c l M a b x 4 o)\/(e=Zv (Zf 4)/\Sdd u g n h c l M a b x o)):=by
 have⟨a1,c1,a2,D,c2,d,f,O⟩:=N;have s:=oN d.n2;have r:0<sz n:=by unfold sz;omega
 have E:=f.cell C.c4 (λe=>C.n4 (OG e));have y:=f.cell C.c14 (λe=>C.n14 (OG e));by_cases t:x<0\/((n+2:Nat):Int)<x
 ·apply(LV d C.hq (nQ (at_:=0) s r (by simp) (iM t)) E y).mono;rintro e o ⟨K,I,G,L,rfl,J,H⟩;have z:=J.o;rw[iN t] at z;exact .inl ⟨rfl,K,I,G,D+1,L,z,f.trans H,by omega⟩
 ·have F:x=((n+2:Nat):Int):=by omega
  rw[F,gM] at d;apply(GD d C.hq (lu (at_:=0) s r (by simp) rfl) E y).mono;rintro e o ⟨rfl,A⟩;exact .inr ⟨rfl,_,_,a1,c1,a2,D,c2,d.later A,f.trans (bQ A),.inr ⟨rfl,.inl rfl⟩,by omega⟩
theorem Mh(_:Cmt u k g n h c j i X W V q U M a b)(G:CI u g n h c l M a b x 4 v):
 C_ prog 184 #[(g,0)] v (λf e=>(f=Zv Zn/\CI u g n h c l M a b x 5 e)\/(f=Zv (Zf 4)/\Sdd u g n h c l M a b x e)):=by
 have⟨a1,c1,a2,D,c2,d,r,H⟩:=G;have o:=Da (n:=n) (q:=c) d.n2;by_cases s:x<0\/((n+3:Nat):Int)<x
 ·apply(uh d (oX o (iM s))).mono;rintro f e ⟨F,C,rfl,E,A⟩;have t:=E.o;rw[iN s] at t;exact .inl ⟨rfl,F,C,none,0,0,t,r.trans A,by omega⟩
 ·have z:x=((n+3:Nat):Int):=by omega
  rw[z,gM] at d;apply(pD d o rfl).mono;rintro f e ⟨rfl,y⟩;exact .inr ⟨rfl,_,_,a1,c1,a2,D,c2,d.later y,r.trans (bQ y),.inr ⟨rfl,.inr rfl⟩,by omega⟩
theorem Mi(C:Cmt u k g n h c j i X W V q U M a b)(z:CI u g n h c l M a b x 5 v):
 C_ prog 186 #[(V,0),(j,0)] v (λe f=>(e=Zv Zn/\CI u g n h c l M a b x 6 f)\/(e=Zv (Zf 4)/\Sdd u g n h c l M a b x f)):=by
 have⟨a1,c1,a2,o,c2,D,d,A⟩:=z;have y:=d.cell C.c4 (λe=>C.n4 (OG e));have s:=d.cell C.c14 (λe=>C.n14 (OG e));apply(J6 D C.hq y s).mono;rintro e f ⟨rfl,r,t⟩;exact .inl ⟨rfl,a1,c1,a2,o,c2,r,d.trans t,A⟩
theorem Mj(C:Cmt u k g n h c j i X W V q U M a b)(t:CI u g n h c l M a b x 0 v):
 C_ prog 178 #[(k,6,6)] v λe o=>(e=Zv Zn/\CI u g n h c l M a b x 6 o)\/(e=Zv (Zf 4)/\Sdd u g n h c l M a b x o):=by
 apply Lj (k:=k) (E:=Sdd u g n h c l M a b x) t;intro p o r s;have f:u.grownBy o (some g):=by
  match p,r,s with
  |0,_,h=>obtain⟨_,_,_,_,_,_,d,_⟩:=h;exact d
  |1,_,h=>obtain⟨_,_,_,_,_,_,d,_⟩:=h;exact d
  |2,_,h=>obtain⟨_,_,_,_,_,_,d,_⟩:=h;exact d
  |3,_,h=>obtain⟨_,_,_,_,_,_,d,_⟩:=h;exact d
  |4,_,h=>obtain⟨_,_,_,_,_,_,d,_⟩:=h;exact d
  |5,_,h=>obtain⟨_,_,_,_,_,_,d,_⟩:=h;exact d
 match p,r,s with
 |0,_,h=>exact⟨_,_,_,f.cell C.r0 (λe=>C.rg (OG e)),λ_ _=>by kernel_rfl,Md C h⟩
 |1,_,h=>exact⟨_,_,_,f.cell C.r1 (λe=>C.rg (OG e)),λ_ _=>by kernel_rfl,Me C h⟩
 |2,_,h=>exact⟨_,_,_,f.cell C.r2 (λe=>C.rg (OG e)),λ_ _=>by kernel_rfl,Mf C h⟩
 |3,_,h=>exact⟨_,_,_,f.cell C.r3 (λe=>C.rg (OG e)),λ_ _=>by kernel_rfl,Mg C h⟩
 |4,_,h=>exact⟨_,_,_,f.cell C.r4 (λe=>C.rg (OG e)),λ_ _=>by kernel_rfl,Mh C h⟩
 |5,_,h=>exact⟨_,_,_,f.cell C.r5 (λe=>C.rg (OG e)),λ_ _=>by kernel_rfl,Mi C h⟩
end
section
variable {n g h:Nat}{w:W_}
theorem Mx.yW(d:ccV n Z=Zn):∀(k:Nat) (p:Pt),Z[k]?=p->0<=p.at_/\p.at_<(n:Int):=λk p e=>by
 by_cases c:inside n p.at_=true
 ·unfold inside at c
  simpa using c
 ·rw[yX e (by simpa using c)] at d
  cases d
theorem Sst.base(hs:Sst v g n h l Z x k u)(c:w.grownBy v (some g)):Sst w g n h l Z x k u:=by
 have⟨a1,c1,a2,e,c2,i,d,f⟩:=hs;exact⟨a1,c1,a2,e,c2,i,c.trans d,f⟩
theorem Sdd.base(hs:Sdd v g n h k l M x y z u)(c:w.grownBy v (some g)):Sdd w g n h k l M x y z u:=by
 have⟨d,p1,a1,c1,a2,f,c2,j,e,i⟩:=hs;exact⟨d,p1,a1,c1,a2,f,c2,j,c.trans e,i⟩
theorem yH(g:Nat)(w:W_)(hs:StW w g k c l [] x q j p 0 i)(hu:PL w T X Z)(a b:Int)(av:X<=k)(ha0:0<=a)(ha1:a<=2147483647)(hb0:0<=b)(hb1:b<=2147483647)(hv:ccV k Z=Zn)(hl:x≠0):
 C_ prog 147 #[(g,0),(T,X,W),a,b] w λO v=>(O=Zv Zn/\CI w g k c (1-c) l (aH (vw k c l) Z) a b x 6 v)\/(O=Zv (Zf 4)/\Sdd w g k c (1-c) l (aH (vw k c l) Z) a b x v):=by
 have HU:=Y hu;clear hu;have A:=Y hs;have aI:g<w:=Bx.lt hs.bx;clear hs;have⟨C,H⟩:=ZX (((w.alloc (.cells #[(g,0)] 217)).alloc (.cells #[a] 3)).alloc (.cells #[b] 3));have Z0:=Y (show C=w.heap.size+3 by rw[H];simp);have D0:H_ (OS w C):=(by rw[H];exact((af).alloc (af).size _).alloc ((af).alloc (af).size _).size _);have o:=Y (show Bx C w #[(g,0)] 217 by rw[H];exact((Bx.new w _ _).later (af) (Bx.new w _ _).lt).later (af) (by simp;omega));have Q:H_ (Bx C (w+1) #[a] 3):=(by rw[H];exact(show Bx _ (w+1) _ _ from by simpa using (Bx.new (w.alloc (.cells #[(g,0)] 217)) #[a] 3)).later (af) (by simp));have J:=Y (show Bx C (w+1+1) #[b] 3 by rw[H];simpa using (Bx.new ((w.alloc (.cells #[(g,0)] 217)).alloc (.cells #[a] 3)) #[b] 3));have H0:=Y (A.later D0);go_enter func147,ntmps147;change aA Tryz.f147 _ 0 _ w;refine aj rfl ?_;intro K r;go_wp2_with fail;rw[<-H];refine Met.intro (aj rfl ?_);try clear r
 try clear K
 intro K r;have x4:=o.cell 0;have x6:=Q.cell 0;have x7:=J.cell 0;go_wp2_with fail;refine(Ja H0 (U:=W) (HU.later D0) av ha0 ha1 hb0 hb1).mono ?_;rintro O y ⟨rfl,P⟩;have HV:=Y hv;rw[hv];have R:=Y (D0.t P);have HL:=Y hl;clear hv hl;have H1:=Y (A.later R);have y4:=(o.later P o.lt).cell 0;clear x4 x6 x7;go_wp2_with fail;refine Met.intro (aj rfl ?_);try clear r
 try clear K
 intro K r;go_wp2_with fail;refine(zR H1 rfl HL).mono ?_;rintro O t ⟨d,rfl,O2,E2⟩;have D2:=Y (R.t E2);have F2:=Y (P.t E2);have ab:=Y O2;have ah:=Y E2;clear O2 E2;have⟨W3,ad⟩:=ZX (t.alloc (.cells #[(d,k,k)] 76));clear y4;go_wp2_with fail;rw[<-ad];have aT:=A.n1;have aM:=A.n2;have aL:=A.h1;have aF:=Y ab.fz.1;have an:=Y ab.fz.2.1;have E3:H_ (OS y W3):=(by rw[ad];exact ah.alloc ah.size _);have O3:H_ (ay W3 y (d,k,k) (vw k c l)):=(by rw[ad];exact aW ab (af));have al:=bxA ad;have ap:=Y (al.cell 0);have aG:=Y al.lt;have s1:=Y P.size;have s2:=Y ah.size;clear ab D2 F2;refine Met.intro (aj rfl ?_);try clear r
 try clear K
 intro K r;go_wp2_with fail;refine Met.intro (aj rfl ?_);try clear r
 try clear K
 intro K r;go_wp2_with fail;go_loopw [33] (λag wr=>∃e:Nat,ag=Zb (e:Int)/\e<=X/\H_ (ay wr y (d,k,k) (aH (vw k c l) (Z.take e)))/\H_ (OS y wr)/\H_ (wr.cell? t=(d,k,k))/\H_ (t<wr.heap.size)) (λag _=>X-(intOf ag).toNat)
 case atStart=>exact⟨0,rfl,by omega,by rw[List.take_zero];exact O3,E3,ap,aG⟩
 case round=>
  obtain⟨e,rfl,hk,hO,hB,hC,hL⟩:=hrel;have hD:=Y (R.t hB);by_cases az:e<X
  ·have aK:(e:Int)<X:=by omega
   have⟨bb,aN,s,aE,aJ,hp,c0,c1,c2,c3,c4,c5,c6,c7,c8⟩:=(HU.later hD).at_ e az;subst aE;have HP:=Y hp;clear hp;obtain⟨f,hi⟩:∃f:Nat,H_ (s.at_=(f:Int)):=⟨s.at_.toNat,by have h9:=yW HV e s HP;unfold H_;omega⟩;have ak:f<k:=by have h9:=yW HV e s HP;have h8:=hi.o;omega
   rw[hi] at c0;have aP:(f:Int)<k:=by omega
   have⟨E,F⟩:=ZX (wr.alloc (.cells (Zq f s.d) 123));have aD:=(show E.cell? t=(d,k,k) by rw[F,aq hL];exact hC);have u:=bxA F;have O4:H_ (ay E y (d,k,k) (aH (vw k c l) (Z.take e))):=(by rw[F];exact aW hO (af));have B4:H_ (OS y E):=(by rw[F];exact hB.alloc hB.size _);have⟨aR,_,e0,e1,e2,e3,e4,e5,e6,e7⟩:=O4.at_ f ak;have aQ:=O4.fz.2.2;have ax:=Y (show(aH (vw k c l) (Z.take e)).length=k by rw[dD,Nb]);have O5:=Y (show ay (aV E d (f*8) s.d) y (d,k,k) (aH (vw k c l) (Z.take (e+1))) by
    have h9:=ay.put O4 f (by rw[ax];exact ak) s.d;rw[iJ _ _ _ _ HP,hi,m6];exact h9)
   have B5:=Y (bP B4 an (f*8) s.d);have ar:¬d=t:=by have:=aF.o;omega
   have C5:H_ ((aV E d (f*8) s.d).cell? t=(d,k,k)):=(by unfold aV;simp only[aw ar];exact aD);have L5:=Y (show t<(aV E d (f*8) s.d).heap.size by unfold aV;simp;rw[F];simp;have:=hL.o;omega);go_upto_region 10 with fail;rw[<-F];clear c0 c1 c2 c3 c4 c5 c6 c7 c8;have f0:=u.cell 0;have f1:=u.cell 1;have f2:=u.cell 2;have f3:=u.cell 3;have f4:=u.cell 4;have f5:=u.cell 5;have f6:=u.cell 6;have f7:=u.cell 7;have f8:=u.cell 8;have aO:¬wr=d:=by have h8:=hO.fz.1;omega
   unfold aV at O5 B5 C5 L5;go_wp2_with fail;exact⟨⟨e+1,by go_num,by omega,O5,B5,C5,L5⟩,by simp[intOf];omega⟩
  ·obtain rfl:e=X:=by omega
   have HT:H_ (Z.take e=Z):=OL (by rw[HU.1];exact OJ _);rw[HT] at hO;have N:=Y (P.t hB);have HR:=Y (A.later hD);have⟨x0,x1,x2,x3,x4⟩:=HR.bx.cells;have y4:=(o.later N o.lt).cell 0;have aC:(1:Int)-(c:Int)=((1-c:Nat):Int):=by omega
   have aS:=Y (OE J.lt N.size);have⟨W5,M⟩:=ZX (wr.alloc (.cells #[Zb ((1-c:Nat):Int)] 3));go_wp2_with fail;refine Met.intro (aj rfl ?_);try clear r
   try clear K
   intro K r;go_wp2_with fail;rw[<-M];have FV:H_ (OS C W5):=(by rw[M];exact N.alloc N.size _);have z4:=(o.later FV o.lt).cell 0;have ai:=Y (show W5=wr.heap.size+1 by rw[M];simp);clear x0 x1 x2 x3 x4 y4 aC;refine Met.intro (bg (c:=.seq _ .ret) rfl ?_);try clear r
   try clear K
   go_wp2_with fail;have⟨S,ae⟩:=ZX (W5.alloc (.cells #[.func (.func 179) #[] #[(w,0),(wr,0),(t,0)],.func (.func 181) #[] #[(w,0),(wr,0),(w.heap.size+1,0),(w.heap.size+1+1,0)],.func (.func 184) #[(g,0)] #[],.func (.func 185) #[] #[(w,0),(wr,0)],.func (.func 184) #[(g,0)] #[],.func (.func 186) #[] #[(wr,0),(w,0)]] 194));rw[<-ae];clear z4;have F5:=beA M;have F6:H_ (OS wr S):=(by rw[ae];exact F5.alloc F5.size _);have aB:=beA ae;have D6:=Y (hD.t F6);have I:=Y (N.t F6);have G:=bxA ae;have ao:=Y ((bxA M).later aB (by have:=ai.o;omega));have am:=Y hD.size;have CM:=Y (show Cmt S W5 g k c (1-c) w (w+1) (w+1+1) t wr (some ⟨d,0,none⟩) k (aH (vw k c l) Z) a b from
    {r0:=G.cell 0,r1:=G.cell 1,r2:=G.cell 2,r3:=G.cell 3,r4:=G.cell 4,r5:=G.cell 5,
     c4:=(o.later I o.lt).cell 0,c6:=(Q.later I Q.lt).cell 0,c7:=(J.later I J.lt).cell 0,
     c10:=(F6.cell (p:=t) hL).trans hC,c14:=ao.cell 0,
     rg:=by have h1:=am.o;have h2:=ai.o;omega,n4:=by omega,n6:=by omega,n7:=by omega,
     n10:=by have h1:=R.size;have h2:=s2.o;omega,n14:=by have h1:=am.o;omega,
     l4:=(o.later I o.lt).lt,l6:=(Q.later I Q.lt).lt,l7:=(J.later I J.lt).lt,l14:=ao.lt,
     hb:=(hO.qB).later F6,hbg:=λ_ aU hq=>by cases hq;have h1:=R.size;have h2:=an.o;show d≠g;omega,
     hq:=by omega,ha0:=ha0,ha1:=ha1,hb0:=hb0,hb1:=hb1})
   have I6:=Y (show CI S g k c (1-c) l (aH (vw k c l) Z) a b x 0 S from⟨q,j,p,0,i,by rw[mN];exact A.later D6,au _,by omega⟩);refine(Mj CM I6).mono ?_;rintro O w7 (⟨rfl,L⟩|⟨rfl,L⟩)
   ·have HN:=Y (Sst.base L (bQ D6));clear L;go_wp2_with fail;exact UM (by simp[results,results147,go_sem]) rfl (.inl ⟨rfl,HN⟩)
   ·have HN:=Y (Sdd.base L (bQ D6));clear L;go_wp2_with fail;exact UM (by simp[results,results147,go_sem]) rfl (.inr ⟨rfl,HN⟩)
end
section
variable {n h:Nat}{a b a0 b0:Int}
namespace Mx
structure Hd (n h:Nat) (ls:List B8) (bl:List B8) (a b:Int):Prop extends zZ n h ls bl a b where
 mk0:0<=(ls.getD 0 zB).z0
 n1:1<=n
 n2:n<=32
 a0:0<=a
 a1:a<=2147483647
 b0:0<=b
 b1:b<=2147483647
theorem Hd.zero(h1:1<=n)(h2:n<=32):Hd n 0 (List.replicate (sz n) zB) (List.replicate n zB) 0 0:=
 {DE n with
  mk0:=by
   rw[Oy,List.getElem?_replicate];split<;>exact Ug 0
  n1:=h1,n2:=h2,a0:=by omega,a1:=by omega,b0:=by omega,b1:=by omega}
theorem zZ.view(H:zZ n h l M a b):vw n h l=M:=by
 apply List.ext_getElem?;intro i;unfold vw;rw[i8];by_cases c:i<n
 ·rw[T8 c];have e:=H.blk i c;have d:i<M.length:=by rw[H.bln];exact c
  rw[Ox d,UJ,e,Oy,Ox d];rfl
 ·rw[TV (l:=M) (by rw[H.bln];omega),TV (l:=List.range n) (by rw[List.length_range];omega)];rfl
theorem Gu(h0:0<=a)(h1:a<=2147483647)(h2:0<=b)(c:b<=2147483647):by8 (eH a b):=by
 unfold by8 eH;simp only;omega
theorem ye(c:∀p∈Z,0<=p.at_/\p.at_<l.length)(k:Nat)(h:∀p∈Z,p.at_≠(k:Int)):(aH l Z).getD k zB=l.getD k zB:=by
 rw[iI l Z c,Fv l Z k h,m6]
theorem Hr(H:Hd n h l M a0 b0)(y:k=1-h)(u:L.length=n)(q:C.length=sz n)(h0:(C.getD 0 zB).z0=(k:Int))(f:∀d,0<d->C.getD d zB=(aH l (gq n k L a b)).getD d zB)(v:0<=a)(r:a<=2147483647)(x:0<=b)(o:b<=2147483647):Hd n k C L a b:=by
 have A:=H.half;have c:k<=1:=by omega
 have t:=zD (n:=n) (q:=k) (bl:=L) (a:=a) (b:=b) c;have e:∀p∈gq n k L a b,0<=p.at_/\p.at_<(l.length:Int):=by rw[H.len];exact t
 refine {len:=q,bln:=u,half:=c,mark:=by rw[h0];omega,blk:=?_,al:=?_,mk0:=by rw[h0];omega,n1:=H.n1,n2:=H.n2,a0:=v,a1:=r,b0:=x,b1:=o}
 ·intro i j;have s:¬((npl n k:Nat):Int)=((bpl n k i:Nat):Int):=λz=>Kz c c j (by omega)
  rw[f _ (JX n k i),iI l _ e];show eB l (dH n k L n++[⟨(npl n k:Int),eH a b⟩]) _=_;rw[iT,UX s];exact As c (OJ _) j
 ·rw[f _ (KA n k),iI l _ e];show eB l (dH n k L n++[⟨(npl n k:Int),eH a b⟩]) _=_;rw[iT,UY rfl]
theorem yi(H:Hd n h l M a0 b0)(r:k=1-h)(i:L.length=n)(o:0<=a)(j:a<=2147483647)(q:0<=b)(e:b<=2147483647):
 Hd n k (aH (aH l (gq n k L a b)) [j4 k]) L a b:=by
 have d:(aH l (gq n k L a b)).length=sz n:=by rw[dD,H.len]
 have h1:∀p∈[j4 k],0<=p.at_/\p.at_<((aH l (gq n k L a b)).length:Int):=λp c=>by
  rw[i5] at c;subst c;rw[d];show(0:Int)<=0/\(0:Int)<_;unfold sz;omega
 refine Hr H r i (by rw[dD,d]) ?_ ?_ o j q e
 ·rw[iI _ _ h1];show(eB _ ([]++[j4 k]) _).z0=_;rw[iT,UY (show(j4 k).at_=((0:Nat):Int) from rfl)];rfl
 ·intro f s;refine ye h1 f (λp c=>?_);rw[i5] at c;subst c;show(0:Int)≠_;omega
