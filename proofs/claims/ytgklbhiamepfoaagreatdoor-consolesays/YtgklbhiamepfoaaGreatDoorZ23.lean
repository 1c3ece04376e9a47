import Derived.Test.YtgklbhiamepfoaaGreatDoorZ21
import Derived.Test.YtgklbhiamepfoaaGreatDoorZ22
set_option maxHeartbeats 16000000
set_option maxRecDepth 100000
namespace Go.Proofs.YtgklbhiamepfoaaGreatDoor
open Go renaming World->W_,Value->V_,Calls->C_,Addr->A_
open Go.RowKit renaming Hid->H_
open Go.Proofs.Tryz Mx
variable {k c j i h:Nat}{u:W_}{y z t I:Int}{Z T:Nat->Prop}{q U:Option A_}{X:Bu}{W:List (List B8)}{V N J H:V_}{L K:List Int}{M:List B8}{R:Bool}{d:B8}{Q:Nat→Prop}{O:TypeId}{G:List Pt}{F:Pt}{E:Array Oper}{C:Oper}{s:Act}{r:Exit->Act->W_->Prop}{o:Operand}{f:List (List Int)}{e:Fr}
open Go.RowKit
theorem Mx.J4(h:∀p∈G,0<=p.at_/\p.at_<(k:Int)):ccV k G=Zn:=by
 unfold ccV;rw[UY];rw[Nm];intro p c;exact jZ (h p c)
theorem j6(V:Mut Z u)(hn:Nd Z u k c M y z)(r:Nat)(U:PL u q j G)(R:∀p∈G,0<=p.at_/\p.at_<(c:Int))(K:j<=c)(E:0<=t)(s:t<=2147483647)(F:0<=I)(f:I<=2147483647):
 C_ prog 147 #[(k,0),(q,j,r),t,I] u λC e=>C=Zv Zn/\H_ (Nd Z e k c (aH M G) t I)/\H_ (u.grownBy e (some k))/\H_ (Mut Z e):=by
 have⟨L,ab,ls,sa,sc,pa,pc,T,H,_⟩:=hn;apply(yH k u T (W:=r) U t I K E s F f (J4 R) (by omega)).mono;rintro C e (⟨rfl,hc⟩|⟨_,_,_,_,_,_,_,_,_,_,_,h⟩)
 ·have⟨a1,c1,a2,O,c2,d,o,L0⟩:=hc;have h:dK (-1) (c+4)=-1:=rfl;rw[h] at d;have J:O=0:=d.pl.1.symm;subst J;have N:=H.view;rw[N] at d;have Q:=yi H rfl (by rw[dD,H.bln]:(aH M G).length=c) E s F f;have D:=V.eW (Ex.one o) d.bx rG;exact⟨rfl,(Nd.of d Q D L),Y o,Y D⟩
 ·omega
theorem oR(hn:Nd Z u k c M y z):
 C_ prog 127 #[(k,0)] u λe d=>∃p,e=Zr #[.slice (some ⟨p,0,none⟩) c c,Zn]/\H_ (ay d u (.slice (some ⟨p,0,none⟩) c c) M)/\H_ (OS u d):=by
 have⟨_,h,f,sa,sc,r,o,T,H,_⟩:=hn;apply(zR T rfl (by omega)).mono;rintro e d ⟨p,rfl,h1,h2⟩;rw[H.view] at h1;exact⟨p,rfl,Y h1,Y h2⟩
theorem gE(hn:Nd Z u k c M y z):
 C_ prog 126 #[(k,0)] u λe f=>e=Zr #[y,z,Zn]/\H_ (OS u f):=by
 have⟨_,o,h,sa,sc,s,r,T,H,_⟩:=hn;apply(Lm T rfl (by omega) H.al.symm (Gu H.a0 H.a1 H.b0 H.b1)).mono;rintro e f ⟨rfl,h2⟩;rw[Ci H.a0 H.a1,Cl H.b0 H.b1];exact⟨rfl,Y h2⟩
theorem Ky(hn:Nd Z u k c M y z)(f:M[i]?=d):
 C_ prog 145 #[(k,0),i] u λe o=>e=Zr #[d,Zn]/\H_ (OS u o):=by
 have⟨_,s,r,sa,sc,C,t,T,H,_⟩:=hn;have h:i<c:=by rw[<-H.bln];exact(OI.1 f).1
 apply(zU T rfl (by omega) h (d:=d) (by rw[H.blk i h,Oy,f];rfl)).mono;rintro e o ⟨rfl,h2⟩;exact⟨rfl,Y h2⟩
theorem Ip(hn:Nd Z u k c M y z)(f:t<0\/(c:Int)<=t):
 C_ prog 145 #[(k,0),t] u λe d=>e=Zr #[(),Zf 1]/\H_ (OS u d):=by
 have⟨_,o,h,sa,sc,s,r,T,H,_⟩:=hn;apply(Jf T f).mono;rintro e d ⟨rfl,h2⟩;exact⟨rfl,Y h2⟩
def SnE(S:Nat->Prop)(w:W_)(n:Nat)(ae:List (List B8))(hv:Nat)(es:List MapEntry):Prop:=
 ∀e∈es,∃(k:Nat) (l:List B8) (a:Option A_) (c:Nat),e.key=Zb (k:Int)/\k<=hv/\ae[k]?=some l/\e.val=(a,n,c)/\BLo S w a n l/\n<=c
theorem SnE.ext{S:Nat->Prop}{w d:W_}{n:Nat}{ae:List (List B8)}{c:Nat}{e:List MapEntry}(h:SnE S w n ae c e)(o:Ex S w d):SnE S d n ae c e:=λj f=>by
 have⟨q,l,a,r,h1,h2,s,t,i,k⟩:=h j f;exact⟨q,l,a,r,h1,h2,s,t,i.ext o,k⟩
theorem SnE.wd{S S':Nat->Prop}{w:W_}{n:Nat}{ae:List (List B8)}{c:Nat}{d:List MapEntry}(h:SnE S w n ae c d)(s:Wd S S' w):SnE S' w n ae c d:=λi e=>by
 have⟨k,l,a,o,h1,h2,q,r,f,j⟩:=h i e;exact⟨k,l,a,o,h1,h2,q,r,f.wd s,j⟩
def SnK(es:List MapEntry)(lo:Int)(hv:Nat):Prop:=∀k:Nat,lo<=(k:Int)->k<=hv->∃e∈es,e.key=Zb (k:Int)
def Snp(S:Nat->Prop)(w:W_)(m n:Nat)(ae:List (List B8))(lo:Int)(hv:Nat):Prop:=
 ∃es ck,Mp 3 w m es ck/\SnE S w n ae hv es/\SnK es lo hv
theorem Snp.ext{S T:Nat->Prop}{w d:W_}{m n:Nat}{ae:List (List B8)}{lo:Int}{c:Nat}(h:Snp S w m n ae lo c)(e:Ex T w d)(f:∀b,T b->S b)(o:¬T m):Snp S d m n ae lo c:=by
 have⟨q,i,h1,h2,j⟩:=h;exact⟨q,i,{h1 with at_:=(e.block m h1.ltm o).trans h1.at_},h2.ext (e.mono (λb _ k=>f b k)),j⟩
theorem Snp.wd{S S':Nat->Prop}{w:W_}{m n:Nat}{ae:List (List B8)}{lo:Int}{c:Nat}(h:Snp S w m n ae lo c)(i:Wd S S' w):Snp S' w m n ae lo c:=by
 have⟨f,d,h1,h2,e⟩:=h;exact⟨f,d,h1,h2.wd i,e⟩
theorem Snp.low{lo:Int}(h:Snp Z u k c W lo j)(o:lo<=y):Snp Z u k c W y j:=by
 have⟨i,d,h1,h2,f⟩:=h;exact⟨i,d,h1,h2,λe q=>f e (by omega)⟩
theorem Snp.is{lo:Int}(h:Snp Z u k c W lo j):∃e d,u.heap[k]?=some (.map e d):=by
 have⟨e,d,h1,_⟩:=h;exact⟨_,_,h1.at_⟩
abbrev Pf_:=Mir.Fs Fr (List B8)
def Pbx(w:W_)(P g n:Nat)(num:Int)(oa:Option A_)(on oc:Nat)(sa:Option A_)(sn sc:Nat)(be:Bool)(m:Nat)(safe ses base:Int)(qa:Option A_)(qn qc:Nat)(known:Bool)(goal:Int)(ha:Option A_)(hn hc:Nat):Prop:=
 Bx w P #[(g,0),Zb (n:Int),Zb num,(oa,on,oc),(sa,sn,sc),Zl be,.map (some m),Zb safe,Zb ses,Zb base,(qa,qn,qc),Zl known,Zb goal,(ha,hn,hc)] 239
section
variable {w:W_}{P g n:Nat}{oa:Option A_}{on oc:Nat}{sa:Option A_}{sn sc:Nat}{m:Nat}{base:Int}{qa:Option A_}{qn qc:Nat}{ha:Option A_}{hn hc:Nat}
theorem Pbx.cells{known:Bool}(h:Pbx w P g n y oa on oc sa sn sc R m z t base qa qn qc known I ha hn hc):
 w.cell? P=(g,0)/\w.cell? (P,1)=Zb (n:Int)/\w.cell? (P,2)=Zb y/\w.cell? (P,3)=(oa,on,oc)/\w.cell? (P,4)=(sa,sn,sc)/\w.cell? (P,5)=Zl R/\w.cell? (P,6)=some (.map (some m))/\
 w.cell? (P,7)=Zb z/\w.cell? (P,8)=Zb t/\w.cell? (P,9)=Zb base/\w.cell? (P,10)=(qa,qn,qc)/\w.cell? (P,11)=Zl known/\w.cell? (P,12)=Zb I/\w.cell? (P,13)=(ha,hn,hc):=
 ⟨Bx.cell h 0,Bx.cell h 1,Bx.cell h 2,Bx.cell h 3,Bx.cell h 4,Bx.cell h 5,Bx.cell h 6,Bx.cell h 7,Bx.cell h 8,Bx.cell h 9,Bx.cell h 10,Bx.cell h 11,Bx.cell h 12,Bx.cell h 13⟩
theorem gF{c:Bool}:km #[(g,0),n,y,(oa,on,oc),(sa,sn,sc),Zl R,.map (some m),z,t,base,(qa,qn,qc),Zl c,I,(ha,hn,hc)]:=by
 intro j v
 match j with
 |0|1|2|3|4|5|6|7|8|9|10|11|12|13=>simp
 |j+14=>simp
end
structure PrR (S:Nat->Prop) (w:W_) (n:Nat) (ae:List (List B8)) (b:Bu) (p:Pf_) (g:Nat) (oa:Option A_) (on oc:Nat) (sa:Option A_) (sn sc:Nat) (m:Nat) (qa:Option A_) (qn qc:Nat) (ha:Option A_) (hn hc:Nat):Prop where
 nd:∃bl,ae[p.ar]?=some bl/\Nd S w g n bl (p.ar:Int) (p.s:Int)
 bu:Buo S w oa on oc sa sn sc b.op b.se
 mp:Snp S w m n ae (b.num-(b.se.length:Int)) p.ar
 qu:FLF (dU S) w qa qn p.queue
 qc:qn<=qc
 hd:BLo S w ha hn p.had
 hc:hn<=hc
 num:b.num=(p.ar:Int)
section
variable {A S:Nat→Prop}{w:W_}{P n:Nat}{ae:List (List B8)}{b:Bu}{p:Pf_}{g:Nat}{oa:Option A_}{on oc:Nat}{sa:Option A_}{sn sc:Nat}{m:Nat}{qa:Option A_}{qn qc:Nat}{ha:Option A_}{hn hc:Nat}
theorem PrR.ext{T:Nat→Prop}(h:PrR S w n ae b p g oa on oc sa sn sc m qa qn qc ha hn hc)(e:Ex T w u)(c:∀b,T b->S b)(f:¬T g)(k:¬T m):PrR S u n ae b p g oa on oc sa sn sc m qa qn qc ha hn hc:=by
 have d:=e.mono (λb _ j=>c b j);have⟨i,h1,h2⟩:=h.nd;exact⟨⟨i,h1,h2.ext e c f⟩,h.bu.ext d,h.mp.ext e c k,h.qu.sB d,h.qc,h.hd.ext d,h.hc,h.num⟩
theorem PrR.later{w':W_}(h:PrR S w n ae b p g oa on oc sa sn sc m qa qn qc ha hn hc)(d:OS w w'):PrR S w' n ae b p g oa on oc sa sn sc m qa qn qc ha hn hc:=
 h.ext (T:=λ_=>False) (Ex.below d) (λ_ c=>c.elim) (λc=>c) (λc=>c)
theorem PrR.wd{S':Nat→Prop}(h:PrR S w n ae b p g oa on oc sa sn sc m qa qn qc ha hn hc)(c:Wd S S' w)(e:S' g):PrR S' w n ae b p g oa on oc sa sn sc m qa qn qc ha hn hc:=by
 have⟨d,h1,h2⟩:=h.nd;exact⟨⟨d,h1,h2.wd c e⟩,h.bu.wd c,h.mp.wd c,h.qu.wd c,h.qc,h.hd.wd c,h.hc,h.num⟩
structure PrX (A S:Nat->Prop) (w:W_) (P n:Nat) (ae:List (List B8)) (b:Bu) (p:Pf_) (g:Nat) (oa:Option A_) (on oc:Nat) (sa:Option A_) (sn sc:Nat) (m:Nat) (qa:Option A_) (qn qc:Nat) (ha:Option A_) (hn hc:Nat):Prop where
 bx:Pbx w P g n b.num oa on oc sa sn sc b.be m (p.safe:Int) (p.s:Int) (p.base:Int) qa qn qc p.known (p.goal:Int) ha hn hc
 r:PrR S w n ae b p g oa on oc sa sn sc m qa qn qc ha hn hc
 aP:A P
 ag:A g
 am:A m
 sub:∀b,A b->S b
theorem PrX.ne(h:PrX A S w P n ae b p g oa on oc sa sn sc m qa qn qc ha hn hc):P≠g/\P≠m/\g≠m:=by
 have⟨d,_,_,_,_,_,_,_,_,Q,_⟩:=h.r.nd;have⟨f,e,c⟩:=h.r.mp.is;have h1:w.heap[P]?=some (.cells _ 239 (0,0)):=h.bx;have h2:w.heap[g]?=some (.cells _ 279 (0,0)):=Q.bx;refine⟨?_,?_,?_⟩
 ·rintro rfl;rw[h1] at h2;simp at h2
 ·rintro rfl;rw[h1] at c;cases c
 ·rintro rfl;rw[h2] at c;cases c
def PrW(A S:Nat->Prop)(w:W_)(P n:Nat)(ae:List (List B8))(b:Bu)(p:Pf_):Prop:=
 ∃g oa on oc sa sn sc m qa qn qc ha hn hc,PrX A S w P n ae b p g oa on oc sa sn sc m qa qn qc ha hn hc
theorem PrX.frame{T:Nat→Prop}(h:PrX A S w P n ae b p g oa on oc sa sn sc m qa qn qc ha hn hc)(d:Ex T w u)(e:∀b,T b->S b)(c:∀b,A b->¬T b):PrX A S u P n ae b p g oa on oc sa sn sc m qa qn qc ha hn hc:=
 ⟨Ex.bx d h.bx (c _ h.aP),h.r.ext d e (c _ h.ag) (c _ h.am),h.aP,h.ag,h.am,h.sub⟩
theorem PrX.wd{S':Nat→Prop}(h:PrX A S w P n ae b p g oa on oc sa sn sc m qa qn qc ha hn hc)(d:Wd S S' w)(c:∀b,A b->S' b):PrX A S' w P n ae b p g oa on oc sa sn sc m qa qn qc ha hn hc:=
 ⟨h.bx,h.r.wd d (c _ h.ag),h.aP,h.ag,h.am,c⟩
theorem PrX.later{w':W_}(h:PrX A S w P n ae b p g oa on oc sa sn sc m qa qn qc ha hn hc)(d:OS w w'):PrX A S w' P n ae b p g oa on oc sa sn sc m qa qn qc ha hn hc:=
 h.frame (T:=λ_=>False) (Ex.below d) (λ_ c=>c.elim) (λ_ _ c=>c)
theorem PrW.frame{T:Nat→Prop}(h:PrW A S w P n ae b p)(e:Ex T w u)(d:∀b,T b->S b)(c:∀b,A b->¬T b):PrW A S u P n ae b p:=by
 have⟨g,oa,on,oc,sa,sn,sc,m,qa,qn,qc,ha,hn,hc,X⟩:=h;exact⟨g,oa,on,oc,sa,sn,sc,m,qa,qn,qc,ha,hn,hc,X.frame e d c⟩
theorem PrW.wd{S':Nat→Prop}(h:PrW A S w P n ae b p)(d:Wd S S' w)(c:∀b,A b->S' b):PrW A S' w P n ae b p:=by
 have⟨g,oa,on,oc,sa,sn,sc,m,qa,qn,qc,ha,hn,hc,X⟩:=h;exact⟨g,oa,on,oc,sa,sn,sc,m,qa,qn,qc,ha,hn,hc,X.wd d c⟩
theorem PrW.later{w':W_}(h:PrW A S w P n ae b p)(c:OS w w'):PrW A S w' P n ae b p:=by
 have⟨g,oa,on,oc,sa,sn,sc,m,qa,qn,qc,ha,hn,hc,X⟩:=h;exact⟨g,oa,on,oc,sa,sn,sc,m,qa,qn,qc,ha,hn,hc,X.later c⟩
end
structure PrD (A S:Nat->Prop) (w w':W_) (P n:Nat) (ae:List (List B8)) (b:Bu) (p:Pf_):Prop where
 mu:Mut S w'
 pr:PrW A S w' P n ae b p
 ext:Ex A w w'
theorem yS(J:Mut Z u)(C:Buo Z u q k c U j i X.op X.se)(z:aY X h=0)(h0:0<=F.at_)(h1:F.at_<(h:Int)):
 C_ prog 144 #[.agg #[X.num,(q,k,c),(U,j,i),Zl X.be],h,.agg (Zq F.at_ F.d)] u λy t=>
  ∃f d r e s o,y=Zr #[.agg #[X.num,.slice f d r,.slice e s o,Zl X.be],Zn]/\H_ (Buo Z t f d r e s o (gV X F).op (gV X F).se)/\H_ (OS u t):=by
 have ha:=Cy (p:=F) z (by omega);apply(yQ X.num c i X.be h F.at_ F.d C.op.1 C.se.el (gI z)).mono;rintro y t ⟨v,rfl,h2,H⟩;have G:added ⟨X.num,X.op,X.se,X.be⟩ h ⟨F.at_,F.d⟩=gV X F:=uY ha;have I:jD ⟨X.num,X.op,X.se,X.be⟩ h ⟨F.at_,F.d⟩=0:=ha;rw[G] at h2;rw[I];have⟨f,d,r,e,s,o,D,E⟩:=h2.buo J (OJ _);exact⟨f,d,r,e,s,o,by rw[D];rfl,Y E,H⟩
theorem vi(I:Mut Z u)(C:Buo Z u q k c U j i X.op X.se)(z:aY X h=0)(h0:F.at_<0\/(h:Int)<=F.at_):
 C_ prog 144 #[.agg #[X.num,(q,k,c),(U,j,i),Zl X.be],h,.agg (Zq F.at_ F.d)] u λy t=>
  ∃f d r e s o,y=Zr #[.agg #[Zi,.slice f d r,.slice e s o,Zl false],Zf 1]/\H_ (OS u t):=by
 have ha:=uZ (p:=F) z h0;apply(yQ X.num c i X.be h F.at_ F.d C.op.1 C.se.el (gI z)).mono;rintro y t ⟨v,rfl,h2,G⟩;have E:added ⟨X.num,X.op,X.se,X.be⟩ h ⟨F.at_,F.d⟩=zBu:=kK ha (by omega);have H:jD ⟨X.num,X.op,X.se,X.be⟩ h ⟨F.at_,F.d⟩=1:=ha;rw[E] at h2;rw[H];have⟨f,d,r,e,s,o,D,J⟩:=h2.buo I (OJ _);exact⟨f,d,r,e,s,o,by rw[D];rfl,G⟩
theorem Gr(J:Mut Z u)(D:Buo Z u q k c U j i X.op X.se)(C:aY X h=0)(h0:X.num≠2147483647):
 C_ prog 146 #[.agg #[X.num,(q,k,c),(U,j,i),Zl X.be],h] u λz t=>
  ∃f d r e s o,z=Zr #[.agg #[Zb (X.num+1),.slice f d r,.slice e s o,Zl (ew X)],Zn]/\H_ (Buo Z t f d r e s o (cA X).op (cA X).se)/\H_ (OS u t):=by
 have ha:=FU C h0;apply(Jc (x:=X.num) (c:=c) (h:=i) (T:=X.be) (y:=h) D.op.1 D.se.el (gI C)).mono;rintro z t ⟨v,rfl,h2,H⟩;have G:l3 ⟨X.num,X.op,X.se,X.be⟩ h=cA X:=ud ha;have I:kG ⟨X.num,X.op,X.se,X.be⟩ h=0:=ha;rw[G] at h2;rw[I];have⟨f,d,r,e,s,o,E,F⟩:=h2.buo J (OJ _);exact⟨f,d,r,e,s,o,by rw[E];rfl,Y F,H⟩
theorem Gl(J:Mut Z u)(C:Buo Z u q k c U j i X.op X.se)(D:aY X h=0)(h0:0<=y)(h1:y<=X.num):
 C_ prog 226 #[.agg #[X.num,(q,k,c),(U,j,i),Zl X.be],h,y] u λE z =>
  ∃o d s e r f,E=Zr #[.agg #[X.num,.slice o d s,.slice e r f,Zl (dj X y).be],Zn]/\H_ (Buo Z z o d s e r f (dj X y).op (dj X y).se)/\H_ (OS u z):=by
 have ha:=rF (k:=y) D (by omega);apply(Ha (x:=X.num) (q:=q) (m:=k) (c:=c) (p:=U) (i:=j) (h:=i) (T:=X.be) (X:=X.op) (W:=X.se) (y:=h) (t:=y) (v:=u) C.op.1 C.se.el (gI D) C.sc).mono;rintro E z ⟨v,rfl,h2,F⟩;have I:dropped ⟨X.num,X.op,X.se,X.be⟩ h y=dj X y:=qW ha;have K:dR ⟨X.num,X.op,X.se,X.be⟩ h y=0:=ha;rw[I] at h2;rw[K];obtain⟨o,d,s,e,r,f,G,H⟩:=h2.buo J (OJ _);exact⟨o,d,s,e,r,f,by rw[G];rfl,Y H,F⟩
theorem fD(P:Nat)(hc:u.cell? (P,2)=Zb y):
 C_ prog 128 #[(P,0)] u λe c=>e=Zv (Zb y)/\c=u:=by
 go_enter func128,ntmps128;go_wp2;go_ret;exact⟨rfl,rfl⟩
def BO(w:W_)(P:Nat)(v8 v9 Rn Ro Rq:V_):W_:=((((w.setCell ⟨P,8,none⟩ v8).setCell ⟨P,9,none⟩ v9).setCell ⟨P,10,none⟩ Rn).setCell ⟨P,11,none⟩ Ro).setCell ⟨P,13,none⟩ Rq
theorem lF(w:W_)(P:Nat){c:V_}:w.grownBy (BO w P V N J H c) (some P):=ak (ak (ak (ak (ak (au w) _ _) _ _) _ _) _ _) _ _
theorem PrX.opened{sn sc m:Nat}{qa:Option A_}{qn qc:Nat}{ha:Option A_}{hn hc s t d f:Nat}(E:Pbx u k j c X.num q i h U sn sc X.be m (d:Int) y z qa qn qc R (f:Int) ha hn hc)(F:PrR T u c W X ⟨t,s,d,false,f,0,[],[]⟩ j q i h U sn sc m none 0 0 none 0 0)(o:Z k)(D:Z j)(C:Z m)(r:∀X,Z X->T X)(h1:k≠j)(h2:k≠m):
 PrX Z T (BO u k (Zb (s:Int)) (Zb 0) Zs (Zl false) Zs) k c W X ⟨t,s,d,false,f,0,[],[]⟩ j q i h U sn sc m none 0 0 none 0 0:=by
 refine⟨?_,?_,o,D,C,r⟩
 ·exact((((Bx.set E 8 _).set 9 _).set 10 _).set 11 _).set 13 _
 ·exact F.ext (Ex.one (lF u k)) (λX G=>by rw[G];exact r _ o) (λe=>h1 e.symm) (λe=>h2 e.symm)
theorem tU(hm:Mut T u){sn sc m:Nat}{qa:Option A_}{qn qc:Nat}{ha:Option A_}{hn hc d D F:Nat}(hx:Pbx u k j c X.num q i h U sn sc X.be m (D:Int) y z qa qn qc R (F:Int) ha hn hc)(hbl:W[d]?=M)(al:Nd T u j c M (d:Int) t)(ak:Buo T u q i h U sn sc X.op X.se)(aj:Snp T u m c W (X.num-(X.se.length:Int)) d)(ab:X.num=(d:Int))(aP:Z k)(L:Z j)(am:Z m)(sub:∀X,Z X->T X)(o:k≠j/\k≠m/\j≠m){C:Nat}(hs:(C:Int)<=2147483647)(hh:(d:Int)<=2147483647):
 C_ prog 156 #[(k,0),C] u λf E=>f=Zv Zn/\H_ (PrD Z T u E k c W X ⟨d,C,D,false,F,0,[],[]⟩):=by
 have⟨K,x1,s,x3,x4,x5,x6,x7,x8,x9,ah,ad,af,ai⟩:=hx.cells;have HX:=Y hx;have HM:=Y hm;have o:=Y o;rw[ab] at s;have HS:=Y hs;have HH:=Y hh;have HN:=Y ab;have HB:=Y hbl;have HD:=Y al;have HU:=Y ak;have HP:=Y aj;clear hx hm hs hh ab hbl al ak aj x1 x3 x4 x5 x6 x7 x8 x9 ah ad af ai;go_enter func156,ntmps156;go_upto_region 1 with fail;go_region_held3 (λE=>E.cell? k=(j,0)/\E.cell? (k,2)=Zb (d:Int))
  (first|((try simp only[an]);first|with_reducible exact⟨K,s⟩|with_reducible exact⟨y0,y2⟩))
  (first|(go_at_call 128;(with_reducible refine(fD k (y:=(d:Int)) (by first|exact s|(simp only[an];exact s))).mono ?_);rintro f wz ⟨rfl,hz⟩;obtain rfl:=hz.symm;clear hz)|(go_at_call 147;(with_reducible refine(j6 (HM.o.later (ce _ _).drew) (HD.o.later (ce _ _).drew) 0 (PL.nil _) (λ_ ao=>by simp at ao) (ol _) (by omega) HH.o (by omega) HS.o).mono ?_);rintro f e ⟨rfl,N2,G2,M2⟩;have y0:=G2.cell (row:=j) (a:=⟨k,0,none⟩) K (λf=>o.1 (OG f));have y2:=G2.cell (row:=j) (a:=⟨k,2,none⟩) s (λf=>o.1 (OG f))))
 all_goals
  clear K s y0 y2;have GW:=Y (show u.grownBy e (some j) from(bQ (ce _ _).drew (H:=some j)).trans G2);have O:=Y (Ex.one GW);have Q:H_ (Pbx e k j c X.num q i h U sn sc X.be m (D:Int) y z qa qn qc R (F:Int) ha hn hc):=Ex.bx O HX o.1;have R2:=Y (show PrR T e c W X ⟨d,C,D,false,F,0,[],[]⟩ j q i h U sn sc m none 0 0 none 0 0 from by
   have hE:Ex T u e:=O.mono (λX _ r=>by rw[r];exact sub _ L);exact⟨⟨M,HB,N2⟩,HU.ext hE,HP.ext O (λX r=>by rw[r];exact sub _ L) (λf=>o.2.2 f.symm),FLF.nil _ e,OJ _,BLo.nil T e,OJ _,HN⟩)
  have⟨K,x1,s,x3,x4,x5,x6,x7,x8,x9,ah,ad,af,ai⟩:=Q.cells;have xz:=Bx.frozen Q;go_wp2;have XF:=Y (PrX.opened Q R2 aP L am sub o.1 o.2.1);have EF:=Y (show Ex Z u (BO e k (Zb (C:Int)) (Zb 0) Zs (Zl false) Zs) from(O.mono (λX _ r=>by rw[r];exact L)).trans ((Ex.one (lF e k)).mono (λX _ r=>by rw[r];exact aP)));have MF:=Y (M2.eW (Ex.one (lF e k (V:=Zb (C:Int)) (N:=Zb 0) (J:=Zs) (H:=Zl false) (c:=Zs))) XF.bx gF);exact UM (by simp[results,results156,go_sem]) rfl ⟨rfl,⟨MF,⟨j,q,i,h,U,sn,sc,m,_,_,_,_,_,_,XF⟩,EF⟩⟩
theorem IJ(p:Pf_)(C:Mut T u)(f:PrW Z T u k c W X p)(hs:(j:Int)<=2147483647)(s:(p.ar:Int)<=2147483647):
 C_ prog 156 #[(k,0),j] u λr o=>r=Zv Zn/\H_ (PrD Z T u o k c W X ⟨p.ar,j,p.safe,false,p.goal,0,[],[]⟩):=by
 have⟨g,oa,on,oc,sa,sn,sc,m,qa,qn,qc,ha,hn,hc,d⟩:=f;have⟨D,hbl,e⟩:=d.r.nd;exact tU C d.bx hbl e d.r.bu d.r.mp d.r.num d.aP d.ag d.am d.sub d.ne hs s
section
variable {w:W_}{base:Nat}{v:V_}{l:List Int}
theorem run_append_nil{P:Program}{h e:TypeId}(q:TypeInfo)(d:P.underlying O=some (.slice e))(f:P.info? e=q){s:List V_}(o:w.ownsRow k e j V i s):(Builtin.append_ #[O,O] h #[V,.slice none 0 c]).run P w=.ok V w:=by
 have r:=o.2;rcases r with ⟨h1,h2⟩|⟨g,u,y,h1,_,_,t,_⟩
 ·subst h1 h2;simp[Builtin.append_,Builtin.lenOf,Builtin.firstCells,sizeOf,typeInfo,f,UU d]
 ·subst h1;simp[Builtin.append_,Builtin.lenOf,Builtin.firstCells,sizeOf,typeInfo,f,UU d,storeCells,t]
theorem rS(o:bB w k V L)(t:aD w q j K)(X:L.length+j<=1000000)(D:k<=w):
 ∃f d,(Builtin.append_ #[224,224] O #[V,(q,j,c)]).run prog w=.ok f d/\bB d k f (L++K)/\w.grownBy d V.ownBlock:=by
 have⟨C,y,G,E,R⟩:=info_parts Tryz.info3;have h:=t.row;have z:=t.1;cases q with
 |none=>
  obtain⟨rfl,W⟩:=gQ h;obtain rfl:K=[]:=kw z;exact⟨V,w,run_append_nil (k:=k) (O:=224) (h:=O) (e:=3) C (j:=1) (c:=c) Tryz.underlying224 y (V:=V) (i:=L.length) o,by rw[List.append_nil];exact o,⟨rfl,rfl,rfl,OJ _,λ_ _ _=>rfl⟩⟩
 |some H=>
  have⟨f,d,M,J,F,_,_⟩:=run_append_own_at (P:=prog) w k 224 O 3 C _ 1 8 Tryz.underlying224 y G E R rfl (by decide) V L.length _ o H j c (K.map (Value.int .i64)) h.1 (λI u s=>by
   rcases Tu j with r|r
   ·subst r
    rw[iE h] at s;simp at s
   ·have⟨b,Z,N,U,hc⟩:=h.2.2 r
    cases N
    rw[GT];exact hc I u s) (λu Q=>by
   obtain⟨T,_,rfl⟩:=m8.1 Q;rfl) (by rw[aG];omega) (by omega) D
  refine⟨f,d,M,?_,F⟩;unfold bB;rw[OC,le,z];exact J
theorem gJ{rest:List Oper}(I:C.guard=none){x:Operand}(z:C.op=.call {callee:=.builtin .append,args:=#[o,x],argTypes:=#[224,224]})(hs:s.eval o=V)(i:bB w k V L)(f:Nat)(D:s.eval x=(q,c,f))(t:aD w q c K)(H:L.length+c<=1000000)(h:k<=w)(y:∀e d,bB d k e (L++K)->w.grownBy d V.ownBlock->wpList prog E r rest (s.put C.dst e) d):
 wpList prog E r (C::rest) s w:=by
 refine wpList_plain I λJ u=>?_
 have⟨e,d,F,h2,G⟩:=rS (O:=C.type) i (c:=f) t H h;unfold Oper.wp execOp;simp only[z,resolve,invoke,builtin,T7,Uw,T6,Ul,i7,rx,hs,D,F];exact u _ _ (y e d h2 G)
theorem bB.Oa(w:W_)(x y z:Int):bB (w.alloc (.cells #[x,y,z] 3)) w (w,3,3) [x,y,z]:=
 TS (base:=w) (e:=3) (size:=1) w #[x,y,z] 3 (OJ _) (by rw[aG];omega) rfl
theorem bB.Np(h:bB w base v l):∃a c,v=.slice a l.length c/\l.length<=c/\aD w a l.length l/\∀p,a=some p->base<=p.block:=by
 have⟨a,c,d,f,i,e⟩:=aF h;exact⟨a,c,d,f,aD.lW rfl i,e⟩
theorem bB.blk(h:bB w base v l):∀k,v.ownBlock=some k->base<=k/\k<w.heap.size:=World.ownsRow.lt h
theorem Ed{c1 c2:Nat}(h1:aD u q k L)(ah:k<=1000):
 C_ prog 219 #[y,z,.agg #[t,(q,k,c1),(U,c,c2)]] u λE G=>∃e f,E=Zv (.agg #[Zb 1,.slice e (k+3) f,(U,c,c2)])/\H_ (aD G e (k+3) (y::z::t::L))/\H_ (OS u G):=by
 have⟨d,i⟩:=ZX ((u.alloc (.cells #[t,(q,k,c1),(U,c,c2)] 308)).alloc (.cells #[Zi,Zs,Zs] 308));have D:=Y (show Bx d u #[t,(q,k,c1),(U,c,c2)] 308 by rw[i];exact(Bx.new u _ _).alloc _);have X:=Y (show Bx d (u+1) #[Zi,Zs,Zs] 308 by
  rw[i];have F:=Bx.new (u.alloc (.cells #[t,(q,k,c1),(U,c,c2)] 308)) #[Zi,Zs,Zs] 308;rw[dl] at F;exact F)
 have I:=Y (show OS u d by rw[i];exact(af).alloc (by simp) _);have⟨H,o⟩:=ZX (d.alloc (.cells #[y,z,t] 3));have h:=beA o;have N:=Y (show bB H d (d,3,3) [y,z,t] by rw[o];exact bB.Oa d y z t);have I1:=Y ((h1.later I).later h);have HN:=Y h1.1;have ab:u<d.heap.size:=D.lt;have ad:u.heap.size+1<d:=X.lt;clear h1;have⟨M,O,R⟩:=D.three;go_enter func219,ntmps219;go_upto_region 1 with fail;rw[<-i];go_wp2_with (at_builtin;rw[<-o];refine gJ (w:=H) rfl rfl (k:=d) (V:=(d,3,3)) (L:=[y,z,t]) rfl ?o1 (q:=q) (c:=k) c1 (K:=L) rfl ?o2 ?o3 ?o4 ?_);case o1=>exact N
 case o2=>exact I1
 case o3=>simp;omega
 case o4=>exact h.size
 intro v2 j Q T;have O2:=Y (show bB j d v2 (y::z::t::L) from Q);have s:=Y (show OS d j from h.grown T h.size (λag hi=>(N.blk ag hi).1));clear Q T;have⟨e,f,hv,_,r,W⟩:=O2.Np;have Z:(y::z::t::L).length=k+3:=by simp[HN.o]
 rw[Z] at hv r;subst hv;have I2:=Y r;have A2:=Y W;clear r W Z;have X2:=Y (D.later s ab);have C:=Y (X.later s ad);clear M O R;have⟨M,O,R⟩:=X2.three;have⟨r0,r1,r2⟩:=C.three;have rz:=C.frozen;have GF:=Y (bI (au j (J:=some (u+1))) (Zb 1) (.slice e (k+3) f) (U,c,c2));have IF:=Y (I2.grownBy GF (λ_ p hp E=>by have h1:=A2 p hp;have h2:u+1=p.block:=OG E;omega));have BF:=Y (show OS u (cP j (u+1) (Zb 1) (.slice e (k+3) f) (U,c,c2)) from aK (I.t s) (by omega));go_wp2;have⟨t0,t1,t2⟩:=(C.aN (Zb 1) (.slice e (k+3) f) (U,c,c2)).three;exact UM (by simp[results,results219,go_sem,t0,t1,t2]) rfl ⟨e,f,rfl,IF,BF⟩
end
section
variable {w:W_}{a:Option A_}{n base B:Nat}{l:List Int}{v:V_}
def BR(w:W_)(a:Option A_)(n:Nat)(l:List Int):Prop:=l.length=n/\dt w a n 1 (l.map (Value.int .u8))
theorem BR.later{w w':W_}{a:Option A_}{n:Nat}{l:List Int}(h:BR w a n l)(c:OS w w'):BR w' a n l:=⟨h.1,h.2.later c⟩
theorem BR.bytes(h:BR w a n l)(f:∀x∈l,0<=x/\x<=255):Bytes w a n l:=by
 have⟨h0,h1,h2,e⟩:=h;refine⟨h0,h2,f,λd=>?_⟩;have⟨b,j,ha,k,hc⟩:=e d;refine⟨b,j,ha,λi o=>hc i _ ?_⟩;have c:i<l.length:=by omega
 rw[i8,Ox c,Oy,Ox c];rfl
theorem Own.br(h:Own w base v l):∃a c,v=.slice a l.length c/\l.length<=c/\BR w a l.length l/\∀p,a=some p->base<=p.block:=by
 have⟨a,c,d,f,i,e⟩:=aF h;exact⟨a,c,d,f,⟨rfl,i⟩,e⟩
theorem BR.grownBy{w f:W_}{a:Option A_}{n:Nat}{l:List Int}{e:Option Nat}(h:BR w a n l)(c:w.grownBy f e)(i:0<n->∀p,a=some p->e≠some p.block):BR f a n l:=by
 have⟨h0,h1,h2,q⟩:=h;refine⟨h0,h1,h2,λd=>?_⟩;have⟨b,r,ha,s,hc⟩:=q d;exact⟨b,r,ha,by have:=c.size;omega,λj u o=>c.cell (hc j u o) (λk=>i d _ ha k.symm)⟩
def Bn(w:W_)(a:Option A_)(k:Nat)(ls:List (List Int)):Prop:=
 ls.length=k/\k<=maxLen/\(0<k->∃b off,a=some ⟨b,off,none⟩/\b<w.heap.size/\∀i l,ls[i]?=some l->∃ai ni ci,w.cell? ⟨b,off+i,none⟩=some (.slice ai ni ci)/\BR w ai ni l/\ni<=ci)
def cg(B:Nat)(w:W_)(base:Nat)(v:V_)(ls:List (List Int)):Prop:=
 ∃vs:List V_,w.ownsRow base 26 1 v ls.length vs/\∀(i:Nat) (l:List Int),ls[i]?=some l->∃(a:Option A_) (n c:Nat),vs[i]?=(a,n,c)/\BR w a n l/\n<=c/\(0<n->∀p,a=some p->v.ownBlock≠some p.block/\B<=p.block)
theorem Tryz.info26:(prog.info? 26).map (λi=>(i.zero,i.size,i.bytes))=some (some (.slice none 0 0),1,24):=by kernel_rfl
theorem cg.later{B:Nat}{w w':W_}{base:Nat}{v:V_}{c:List (List Int)}(h:cg B w base v c)(d:OS w w'):cg B w' base v c:=by
 have⟨k,h1,h2⟩:=h;refine⟨k,aW h1 d,λi l e=>?_⟩;have⟨a,n,o,j,q,f⟩:=h2 i l e;exact⟨a,n,o,j,q.later d,f⟩
theorem cg.bn(o:cg B w base v f):∃a c,v=.slice a f.length c/\f.length<=c/\Bn w a f.length f:=by
 have⟨C,h1,h2⟩:=o;have⟨a,c,j,z,d,_⟩:=aF h1;refine⟨a,c,j,z,rfl,d.2.1,λh0=>?_⟩;have⟨b,u,ha,e,hc⟩:=d.2.2 h0;refine⟨b,u,ha,e,λk l h=>?_⟩;have⟨s,i,y,r,t,q,_⟩:=h2 k l h;exact⟨s,i,y,hc _ _ r,t,q⟩
theorem cg.lt{B:Nat}{w:W_}{base:Nat}{v:V_}{c:List (List Int)}(h:cg B w base v c):∀k,v.ownBlock=some k->base<=k/\k<w.heap.size:=by
 have⟨d,h1,_⟩:=h;exact World.ownsRow.lt h1
theorem cg.one(k:base<=w)(h:BR w a n l)(hc:n<=c)(j:0<n->∀p,a=some p->B<=p.block):
 cg B (w.alloc (.cells #[(a,n,c)] 26)) base (w,1,1) [l]:=by
 refine⟨[(a,n,c)],TS (base:=base) (e:=26) (size:=1) w #[(a,n,c)] 1 k (by unfold maxLen;omega) rfl,λi q d=>?_⟩
 match i,d with
 |0,d=>
  simp at d;subst d;refine⟨a,n,c,rfl,h.later (af),hc,λh0 p e=>⟨λf=>?_,j h0 p e⟩⟩;have⟨b,r,ha,o,_⟩:=h.2.2.2 h0;rw[ha] at e;cases e
  simp[Value.ownBlock] at f;omega
 |i+1,d=>simp at d
theorem qy{rest:List Oper}(ab:C.guard=none){x:Operand}(ho:C.op=.call {callee:=.builtin .append,args:=#[o,x],argTypes:=#[259,259]})(T:cg k w j (s.eval o) f)(U:BR w q i L)(hc:i<=c)(I:0<i->∀p,q=some p->(s.eval o).ownBlock≠some p.block/\k<=p.block)(hx:s.eval x=(w,1,1))(am:f.length<=1000000)(an:j<=w)(H:∀u d,cg k d j u (f++[L])->w.grownBy d (s.eval o).ownBlock->wpList prog E r rest (s.put C.dst u) d):
 wpList prog E r (C::rest) s (w.alloc (.cells #[(q,i,c)] 26)):=by
 have⟨K,h1,h2⟩:=T;have⟨W,ah,Z,af,ak⟩:=info_parts Tryz.info26;refine wpList_append_own_at _ ab o x 259 ho j 26 W _ 1 24 Tryz.underlying259 ah Z af ak rfl (by decide) (s.eval o) f.length K rfl (World.ownsRow.alloc h1 _) ⟨w,0,none⟩ 1 1 [(q,i,c)] hx rfl (λap ao hj=>?_) (by simp[Value.oneCell']) (by unfold maxLen;omega) (by omega) (by simp;omega) ?_
 ·rw[GT,lw];simpa using hj
 ·intro u d aj G _ Y;have R:w.grownBy d (s.eval o).ownBlock:=⟨G.os,G.tape,G.output,by have:=G.size;simp at this;omega,λQ hk t=>(G.block Q (by simp;omega) t).trans (pi w _ Q hk)⟩;have X:∀(p:A_),p.block<w->(s.eval o).ownBlock≠some p.block->u.ownBlock≠some p.block:=by
   intro p N t M;rcases Y with H|H
   ·exact t (H.symm.trans M)
   ·rw[H] at M;simp at M;omega
  have O:∀{h:Option A_} {e:Nat} {F:List Int},BR w h e F->(0<e->∀p,h=some p->(s.eval o).ownBlock≠some p.block/\k<=p.block)->BR d h e F/\(0<e->∀p,h=some p->u.ownBlock≠some p.block/\k<=p.block):=by
   intro h e F I t;refine⟨I.grownBy R (λh0 p y=>(t h0 p y).1),λh0 p y=>⟨?_,(t h0 p y).2⟩⟩;have⟨b,aq,ha,N,_⟩:=I.2.2.2 h0;have V:=y;rw[ha] at y;cases y
   exact X _ N (t h0 _ V).1
  have ag:K.length=f.length:=by have:=h1.1;simpa using this
  refine H u d ⟨K++[.slice q i c],by rw[OC];exact aj,λJ F z=>?_⟩ R;by_cases ai:J<f.length
  ·rw[OO ai] at z;have⟨h,e,c',e1,e2,e3,e4⟩:=h2 J F z;have D:=O e2 e4;exact⟨h,e,c',by rw[OO (by omega)];exact e1,D.1,e3,D.2⟩
  ·have al:J<(f++[L]).length:=(OI.1 z).1;rw[OC,pu] at al;obtain rfl:J=f.length:=by omega
   rw[ON (OJ _),TK] at z;simp at z;subst z;have D:=O U I;exact⟨q,i,c,by rw[ON (by omega),ag,TK];rfl,D.1,hc,D.2⟩
end
section
variable {x:Int}{nm:List Int}
namespace Mx
def Msg(l:List Int)(ses x kd:Int)(nm:List Int)(nb:Nat)(bs:List Int):Prop:=aI l 1 (ses::x::kd::nm) nb bs/\kd<=15
theorem Il(h:aI L 1 (y::x::z::nm) k K):cO ⟨z,nm,k,K⟩=if z<=15 then 0 else 1:=by
 have h1:=h.1;unfold may at h1;split at h1
 ·omega
 ·split at h1
  ·omega
  ·next h2=>
   split at h1
   ·omega
   ·next c=>
    simp only[fd] at h2;simp only[List.any_cons,Bool.or_eq_true,not_or] at c;have d:bH z=false:=by simpa using c.2.2.1
    have hn:nm.any bH=false:=by simpa using c.2.2.2
    have j:0<=z:=by unfold bH at d;simp at d;omega
    by_cases e:z<=15
    ·rw[UY e];refine wF (f:=⟨z,nm,k,K⟩) ?_ (by show ¬9<nm.length;omega);show may z nm k=0;unfold may;rw[UX (by omega),UX (by omega),UX (by rw[hn];simp)]
    ·rw[UX e];have i:may z nm k=1:=by unfold may;rw[UY (by omega)]
     rw[zw (f:=⟨z,nm,k,K⟩) (by show may z nm k≠0;omega)];exact i
end Mx
theorem aD.JF(h:aD u (some ⟨k,c,none⟩) (j+3) (x::y::z::nm)):aD u (some ⟨k,c+3,none⟩) j nm:=by
 have⟨h1,h2,f⟩:=h;refine⟨by simpa using h1,by omega,λo=>?_⟩;have⟨r,s,ha,e,hc⟩:=f (by omega);simp only[Option.some.injEq,Addr.mk.injEq,US] at ha;obtain⟨rfl,rfl⟩:=ha;refine⟨k,c+3,rfl,e,λi q=>?_⟩;have d:=hc (i+3) (by omega);rw[show c+(i+3)=c+3+i by omega] at d;rw[d];rfl
def NR(w w':W_)(l:List Int)(ses:Int)(e:Ending):Prop:=
 ∃(x:Int) (v:V_) (ok:Bool),e=Zr #[Zb x,v,Zl ok]/\H_ ((ok=true/\∃kd nm nb bs,Msg l ses x kd nm nb bs/\FrA w w' v ⟨kd,nm,nb,bs⟩)\/(ok=false/\x=0/\v=.agg #[Zb 0,Zs,Zs]/\∀y kd nm nb bs,¬Msg l ses y kd nm nb bs))/\H_ (OS w w')
theorem ym(hl:Bytes u q k L)(a6:k<=2000)(aZ:k<=c):
 C_ prog 247 #[y,(q,k,c)] u λe j=>NR u j L y e:=by
 have⟨W0,av⟩:=ZX (u.alloc (.cells #[Zi,Zs,Zs] 308));have R0:=bxA av;have D0:=beA av;have HL:=Y (hl.later D0.o);have S0:=Y (show W0=u.heap.size+1 by rw[av.o];simp);clear hl;go_enter func247,ntmps247;go_wp2_with fail;rw[<-av.o];refine(dM HL.o a6 aZ).mono ?_;rintro e G (⟨kd,al,d,K,a1,c1,h,c2,rfl,hF,hI,hK,aM,aE,aB,aL,hB⟩|⟨rfl,aT,hB⟩)
 ·have HF:=Y hF;have HU:=Y (show ∀F ab ad ag af,Msg L y F ab ad ag af->kd=1/\al=y::F::ab::ad from λF ab ad ag af hy=>by
   have⟨h1,h2,_⟩:=aI.one HF.o hy.1;exact⟨h1,h2⟩)
  have⟨n1,aA⟩:=ZX al.length;rw[<-aA.o] at hI aB ⊢;have a4:d<=maxLen:=hK.2.1;have bb:n1<=maxLen:=hI.2.1;rw[aG] at a4 bb;have⟨W2,ao⟩:=ZX (G.alloc (.cells #[Zb kd,(a1,n1,c1),(h,d,c2)] 308));have D2:=beA ao;have T:=bxA ao;have I:=Y ((R0.o.later hB R0.o.lt).later D2.o (R0.o.later hB R0.o.lt).lt);have am:=D0.o.trans (hB.mono D0.o.size);have B2:=Y (am.trans (D2.o.mono am.size));have HI:=Y (hI.later D2.o);have HK:=Y (hK.later D2.o);have a0:=Y aM;have ak:=Y aE;have ar:=Y aB;have aS:=Y aL;have a7:=hB.size;clear hF hI hK aM aE aB aL hB am;have ba:W0.heap.size<=G:=a7;go_upto_region 2 with fail;rw[<-ao.o];by_cases h1:kd=1
  ·subst h1;by_cases h2:(n1:Int)<3
   ·have d2:decide ((n1:Int)<3)=true:=by simpa using h2
    have a3:decide (n1<3)=true:=by simpa using (show n1<3 by omega)
    have ah:=Y (show ∀F kd nm d K,¬Msg L y F kd nm d K from λF ab ad ag af hy=>by
     have h3:=(HU.o F ab ad ag af hy).2;have h4:=aA.o;rw[h3] at h4;simp at h4;omega)
    have⟨r,t,s⟩:=I.o.three;have rz:=I.o.frozen;have⟨f0,E,Q⟩:=T.o.three;go_wp2_with fail;have⟨Z,R,W⟩:=(I.o.aN (Zb 0) Zs Zs).three;exact UM (by simp[results,results247,go_sem,Z,R,W]) rfl ⟨0,_,false,rfl,.inr ⟨rfl,rfl,rfl,ah.o⟩,aK B2.o (OJ _)⟩
   ·have d2:decide ((n1:Int)<3)=false:=by simpa using h2
    have a3:decide (n1<3)=false:=by simpa using (show ¬n1<3 by omega)
    obtain⟨y0,y1,f,nm,a8⟩:∃y0 y1 f nm,al=y0::y1::f::nm:=by
     match al,aA.o with
     |[],aj=>simp at aj;omega
     |[_],aj=>simp at aj;omega
     |[_,_],aj=>simp at aj;omega
     |y0::y1::f::nm,_=>exact⟨y0,y1,f,nm,rfl⟩
    subst a8;obtain⟨m,hm⟩:∃m:Nat,n1=m+3:=⟨n1-3,by omega⟩;subst hm;have⟨b,off,z0,aO,ax,aC,e0⟩:=HI.o.at_ 0 (by omega);have⟨b',bi,z1,aF,_,aR,M⟩:=HI.o.at_ 1 (by omega);have⟨bj,bg,z2,aP,_,aH,e2⟩:=HI.o.at_ 2 (by omega);rw[aO] at aF aP;cases aF
    cases aP
    subst aO;have a9:y0=z0:=aC;have a5:y1=z1:=aR;have aX:f=z2:=aH;subst a9 a5 aX;rw[wn] at e0;clear aC aR aH;have bh:W0<=b:=a0.o _ rfl;by_cases h3:y0=y
    ·subst h3;have d3:(y0 !=y0)=false:=by simp
     have aN:=Y (Il HF.o);have ai:¬u=G.heap.size:=by have h1:=S0.o;have h2:=R0.o.lt;have h3:=T.o.lt;have h4:=D2.o.size;intro e;have h5:W0.heap.size<=G:=ba;omega
     have O:¬u=b:=by have h1:=S0.o;omega
     have bd:(3:Int)<=c1:=by have h1:=ar.o;omega
     have bc:(2:Int)<(m:Int)+3:=by omega
     have bf:(1:Int)<(m:Int)+3:=by omega
     have be:(3:Int)<=(m:Int)+3:=by omega
     have⟨f0,E,Q⟩:=T.o.three;have⟨r,t,s⟩:=I.o.three;have rz:=I.o.frozen;by_cases aq:f<=15
     ·have aU:=Y (show cO ⟨f,nm,d,K⟩=0 by rw[aN.o,UY aq]);have aW:=Y (show Msg L y0 y1 f nm d K from⟨HF.o,aq⟩);clear aq;by_cases ay:c1=3
      ·subst ay;obtain rfl:m=0:=by have h1:=ar.o;omega
       have IX:=Y (show aD W2 (some ⟨b,off,none⟩) 0 nm from⟨by have h1:=HI.o.1;simpa using h1,by rw[aG];omega,λaj=>absurd aj (by omega)⟩);go_upto_region 4 with fail;go_region_held3 (λj=>j.cell? (G,1)=(b,off,0+3,3)/\j.cell? (G,2)=some (.slice h d c2)/\j.cell? (b,off+2)=Zb f)
        (first|((try simp only[an,aw ai,aw O]);with_reducible exact⟨E,Q,e2⟩))
        (fail)
       all_goals go_upto_region 5 with fail
       all_goals
        have⟨z,D⟩:=ZX ((cP W2 u (Zb f) (b,off,0,0) (.slice h d c2)).drew);have C:H_ (W2.grownBy z (some u)):=(by rw[D.o];exact cZ (bI (au _) _ _ _));have X:H_ (Bx z u #[Zb f,(b,off,0,0),(h,d,c2)] 308):=(by rw[D.o];exact I.o.aN _ _ _);have F3:=Y (show Bx z G #[Zb 1,(b,off,0+3,3),(h,d,c2)] 308 from(C.o.block _ T.o.lt (λe=>ai (OG e).symm)).trans T.o);have I3:=Y (IX.o.grownBy C.o (λ_ p i e=>by cases i;exact O (OG e)));have K3:=Y (HK.o.grownBy C.o (λ_ p i e=>by have h1:=ak.o p i;have h2:=S0.o;have h3:u=p.block:=OG e;omega));have B3:H_ (OS u z):=(by rw[D.o];exact(aK B2.o (OJ _)).drew);have E1:=Y (C.o.cell (a:=⟨b,off+1,none⟩) M (λe=>O (OG e).symm));have ap:b<z:=OE ax C.o.size;unfold cP at D;rw[<-D.o];clear f0 E Q r t s rz e0 M e2;have⟨r,t,s⟩:=X.o.three;go_wp2_with fail;refine(eb f h 0 c2 K I3.o K3.o.2.1).mono ?_;rintro e w4 ⟨rfl,o⟩;have N:=Y (X.o.later o X.o.lt);have F4:=Y (F3.o.later o F3.o.lt);have B4:=Y (B3.o.trans (o.mono B3.o.size));have I4:=Y (I3.o.later o);have K4:=Y (K3.o.later o);have M:=(o.cell (p:=(b,off+1)) ap).trans E1.o;clear r t s;have⟨f0,E,Q⟩:=F4.o.three;have⟨r,t,s⟩:=N.o.three;have rz:=N.o.frozen;rw[aU.o,aQ];go_upto_region 7 with fail;go_region_held3 (λj=>j.cell? (G,1)=(b,off,0+3,3)/\j.cell? (b,off+1)=Zb y1/\j.cell? u=Zb f/\j.cell? (u,1)=(b,off,0,0)/\j.cell? (u,2)=some (.slice h d c2))
         (first|with_reducible exact⟨E,M,r,t,s⟩|(simp only[an];with_reducible exact⟨E,M,r,t,s⟩)|exact⟨by simp only[aw ai,an];exact E,by simp only[aw O,an];exact M,(N.o.aN _ _ _).three⟩)
         (fail)
        all_goals
         have GF:=Y (bI (au w4 (J:=some u)) (Zb f) (b,off,0,0) (.slice h d c2));have IF:=Y (I4.o.grownBy GF.o (λ_ p i e=>by cases i;exact O (OG e)));have KF:=Y (K4.o.grownBy GF.o (λ_ p i e=>by have h1:=ak.o p i;have h2:=S0.o;have h3:u=p.block:=OG e;omega));have BF:=Y (aK B4.o (OJ _) (V:=Zb f) (U:=(b,off,0,0)) (H:=.slice h d c2));have DR:=Y (show Below (cP w4 u (Zb f) (b,off,0,0) (.slice h d c2)).heap.size (cP w4 u (Zb f) (b,off,0,0) (.slice h d c2)) (cP w4 u (Zb f) (b,off,0,0) (.slice h d c2)).drew from(ce _ _).drew);go_wp2_with fail;have⟨Z,R,W⟩:=(N.o.aN (Zb f) (b,off,0,0) (.slice h d c2)).three;exact UM (by simp[results,results247,go_sem,Z,R,W]) rfl ⟨y1,_,true,rfl,.inl ⟨rfl,f,nm,d,K,aW.o,(some ⟨b,off,none⟩),0,0,h,c2,rfl,IF.o.later DR.o,KF.o.later DR.o,by have:=ar.o;omega,aS.o,λ_ p i=>by cases i;show u<=b;have h9:=S0.o;omega,λ_ p i=>by have h1:=ak.o p i;have h2:=S0.o;omega⟩,BF.o.drew⟩
      ·have IX:=Y HI.o.JF;go_upto_region 4 with fail;go_region_held3 (λj=>j.cell? (G,1)=(b,off,m+3,c1)/\j.cell? (G,2)=some (.slice h d c2)/\j.cell? (b,off+2)=Zb f)
        (first|((try simp only[an,aw ai,aw O]);with_reducible exact⟨E,Q,e2⟩))
        (fail)
       all_goals go_upto_region 5 with fail
       all_goals
        have⟨z,D⟩:=ZX ((cP W2 u (Zb f) (b,off+3,m,c1-3) (.slice h d c2)).drew);have C:H_ (W2.grownBy z (some u)):=(by rw[D.o];exact cZ (bI (au _) _ _ _));have X:H_ (Bx z u #[Zb f,(b,off+3,m,c1-3),(h,d,c2)] 308):=(by rw[D.o];exact I.o.aN _ _ _);have F3:=Y (show Bx z G #[Zb 1,(b,off,m+3,c1),(h,d,c2)] 308 from(C.o.block _ T.o.lt (λe=>ai (OG e).symm)).trans T.o);have I3:=Y (IX.o.grownBy C.o (λ_ p i e=>by cases i;exact O (OG e)));have K3:=Y (HK.o.grownBy C.o (λ_ p i e=>by have h1:=ak.o p i;have h2:=S0.o;have h3:u=p.block:=OG e;omega));have B3:H_ (OS u z):=(by rw[D.o];exact(aK B2.o (OJ _)).drew);have E1:=Y (C.o.cell (a:=⟨b,off+1,none⟩) M (λe=>O (OG e).symm));have ap:b<z:=OE ax C.o.size;unfold cP at D;rw[<-D.o];clear f0 E Q r t s rz e0 M e2;have⟨r,t,s⟩:=X.o.three;go_wp2_with fail;refine(eb f h (c1-3) c2 K I3.o K3.o.2.1).mono ?_;rintro e w4 ⟨rfl,o⟩;have N:=Y (X.o.later o X.o.lt);have F4:=Y (F3.o.later o F3.o.lt);have B4:=Y (B3.o.trans (o.mono B3.o.size));have I4:=Y (I3.o.later o);have K4:=Y (K3.o.later o);have M:=(o.cell (p:=(b,off+1)) ap).trans E1.o;clear r t s;have⟨f0,E,Q⟩:=F4.o.three;have⟨r,t,s⟩:=N.o.three;have rz:=N.o.frozen;rw[aU.o,aQ];go_upto_region 7 with fail;go_region_held3 (λj=>j.cell? (G,1)=(b,off,m+3,c1)/\j.cell? (b,off+1)=Zb y1/\j.cell? u=Zb f/\j.cell? (u,1)=(b,off+3,m,c1-3)/\j.cell? (u,2)=some (.slice h d c2))
         (first|with_reducible exact⟨E,M,r,t,s⟩|(simp only[an];with_reducible exact⟨E,M,r,t,s⟩)|exact⟨by simp only[aw ai,an];exact E,by simp only[aw O,an];exact M,(N.o.aN _ _ _).three⟩)
         (fail)
        all_goals
         have GF:=Y (bI (au w4 (J:=some u)) (Zb f) (b,off+3,m,c1-3) (.slice h d c2));have IF:=Y (I4.o.grownBy GF.o (λ_ p i e=>by cases i;exact O (OG e)));have KF:=Y (K4.o.grownBy GF.o (λ_ p i e=>by have h1:=ak.o p i;have h2:=S0.o;have h3:u=p.block:=OG e;omega));have BF:=Y (aK B4.o (OJ _) (V:=Zb f) (U:=(b,off+3,m,c1-3)) (H:=.slice h d c2));have DR:=Y (show Below (cP w4 u (Zb f) (b,off+3,m,c1-3) (.slice h d c2)).heap.size (cP w4 u (Zb f) (b,off+3,m,c1-3) (.slice h d c2)) (cP w4 u (Zb f) (b,off+3,m,c1-3) (.slice h d c2)).drew from(ce _ _).drew);go_wp2_with fail;have⟨Z,R,W⟩:=(N.o.aN (Zb f) (b,off+3,m,c1-3) (.slice h d c2)).three;exact UM (by simp[results,results247,go_sem,Z,R,W]) rfl ⟨y1,_,true,rfl,.inl ⟨rfl,f,nm,d,K,aW.o,(some ⟨b,off+3,none⟩),m,(c1-3),h,c2,rfl,IF.o.later DR.o,KF.o.later DR.o,by have:=ar.o;omega,aS.o,λ_ p i=>by cases i;show u<=b;have h9:=S0.o;omega,λ_ p i=>by have h1:=ak.o p i;have h2:=S0.o;omega⟩,BF.o.drew⟩
     ·have aV:=Y (show cO ⟨f,nm,d,K⟩=1 by rw[aN.o,UX aq]);have ah:=Y (show ∀F kd nm d K,¬Msg L y0 F kd nm d K from λF ab ad ag af hy=>by
       have h4:=(HU.o F ab ad ag af hy).2;simp at h4;have h5:=hy.2;omega)
      clear aq;by_cases ay:c1=3
      ·subst ay;obtain rfl:m=0:=by have h1:=ar.o;omega
       have IX:=Y (show aD W2 (some ⟨b,off,none⟩) 0 nm from⟨by have h1:=HI.o.1;simpa using h1,by rw[aG];omega,λaj=>absurd aj (by omega)⟩);go_upto_region 4 with fail;go_region_held3 (λj=>j.cell? (G,1)=(b,off,0+3,3)/\j.cell? (G,2)=some (.slice h d c2)/\j.cell? (b,off+2)=Zb f)
        (first|((try simp only[an,aw ai,aw O]);with_reducible exact⟨E,Q,e2⟩))
        (fail)
       all_goals go_upto_region 5 with fail
       all_goals
        have⟨z,D⟩:=ZX ((cP W2 u (Zb f) (b,off,0,0) (.slice h d c2)).drew);have C:H_ (W2.grownBy z (some u)):=(by rw[D.o];exact cZ (bI (au _) _ _ _));have X:H_ (Bx z u #[Zb f,(b,off,0,0),(h,d,c2)] 308):=(by rw[D.o];exact I.o.aN _ _ _);have F3:=Y (show Bx z G #[Zb 1,(b,off,0+3,3),(h,d,c2)] 308 from(C.o.block _ T.o.lt (λe=>ai (OG e).symm)).trans T.o);have I3:=Y (IX.o.grownBy C.o (λ_ p i e=>by cases i;exact O (OG e)));have K3:=Y (HK.o.grownBy C.o (λ_ p i e=>by have h1:=ak.o p i;have h2:=S0.o;have h3:u=p.block:=OG e;omega));have B3:H_ (OS u z):=(by rw[D.o];exact(aK B2.o (OJ _)).drew);have E1:=Y (C.o.cell (a:=⟨b,off+1,none⟩) M (λe=>O (OG e).symm));have ap:b<z:=OE ax C.o.size;unfold cP at D;rw[<-D.o];clear f0 E Q r t s rz e0 M e2;have⟨r,t,s⟩:=X.o.three;go_wp2_with fail;refine(eb f h 0 c2 K I3.o K3.o.2.1).mono ?_;rintro e w4 ⟨rfl,o⟩;have N:=Y (X.o.later o X.o.lt);have F4:=Y (F3.o.later o F3.o.lt);have B4:=Y (B3.o.trans (o.mono B3.o.size));have I4:=Y (I3.o.later o);have K4:=Y (K3.o.later o);have M:=(o.cell (p:=(b,off+1)) ap).trans E1.o;clear r t s;have⟨f0,E,Q⟩:=F4.o.three;have⟨r,t,s⟩:=N.o.three;have rz:=N.o.frozen;have az:aJ 1=Zf 1:=rfl;rw[aV.o,az];go_wp2_with fail;have⟨Z,R,W⟩:=(N.o.aN (Zb 0) Zs Zs).three;exact UM (by simp[results,results247,go_sem,Z,R,W]) rfl ⟨0,_,false,rfl,.inr ⟨rfl,rfl,rfl,ah.o⟩,aK B4.o (OJ _)⟩
      ·have IX:=Y HI.o.JF;go_upto_region 4 with fail;go_region_held3 (λj=>j.cell? (G,1)=(b,off,m+3,c1)/\j.cell? (G,2)=some (.slice h d c2)/\j.cell? (b,off+2)=Zb f)
        (first|((try simp only[an,aw ai,aw O]);with_reducible exact⟨E,Q,e2⟩))
        (fail)
       all_goals go_upto_region 5 with fail
       all_goals
        have⟨z,D⟩:=ZX ((cP W2 u (Zb f) (b,off+3,m,c1-3) (.slice h d c2)).drew);have C:H_ (W2.grownBy z (some u)):=(by rw[D.o];exact cZ (bI (au _) _ _ _));have X:H_ (Bx z u #[Zb f,(b,off+3,m,c1-3),(h,d,c2)] 308):=(by rw[D.o];exact I.o.aN _ _ _);have F3:=Y (show Bx z G #[Zb 1,(b,off,m+3,c1),(h,d,c2)] 308 from(C.o.block _ T.o.lt (λe=>ai (OG e).symm)).trans T.o);have I3:=Y (IX.o.grownBy C.o (λ_ p i e=>by cases i;exact O (OG e)));have K3:=Y (HK.o.grownBy C.o (λ_ p i e=>by have h1:=ak.o p i;have h2:=S0.o;have h3:u=p.block:=OG e;omega));have B3:H_ (OS u z):=(by rw[D.o];exact(aK B2.o (OJ _)).drew);have E1:=Y (C.o.cell (a:=⟨b,off+1,none⟩) M (λe=>O (OG e).symm));have ap:b<z:=OE ax C.o.size;unfold cP at D;rw[<-D.o];clear f0 E Q r t s rz e0 M e2;have⟨r,t,s⟩:=X.o.three;go_wp2_with fail;refine(eb f h (c1-3) c2 K I3.o K3.o.2.1).mono ?_;rintro e w4 ⟨rfl,o⟩;have N:=Y (X.o.later o X.o.lt);have F4:=Y (F3.o.later o F3.o.lt);have B4:=Y (B3.o.trans (o.mono B3.o.size));have I4:=Y (I3.o.later o);have K4:=Y (K3.o.later o);have M:=(o.cell (p:=(b,off+1)) ap).trans E1.o;clear r t s;have⟨f0,E,Q⟩:=F4.o.three;have⟨r,t,s⟩:=N.o.three;have rz:=N.o.frozen;have az:aJ 1=Zf 1:=rfl;rw[aV.o,az];go_wp2_with fail;have⟨Z,R,W⟩:=(N.o.aN (Zb 0) Zs Zs).three;exact UM (by simp[results,results247,go_sem,Z,R,W]) rfl ⟨0,_,false,rfl,.inr ⟨rfl,rfl,rfl,ah.o⟩,aK B4.o (OJ _)⟩
    ·have d3:(y0 !=y)=true:=by simpa using h3
     have ah:=Y (show ∀F kd nm d K,¬Msg L y F kd nm d K from λF ab ad ag af hy=>by
      have h4:=(HU.o F ab ad ag af hy).2;simp at h4;exact h3 h4.1)
     have⟨r,t,s⟩:=I.o.three;have rz:=I.o.frozen;have⟨f0,E,Q⟩:=T.o.three;go_wp2_with fail;have⟨Z,R,W⟩:=(I.o.aN (Zb 0) Zs Zs).three;exact UM (by simp[results,results247,go_sem,Z,R,W]) rfl ⟨0,_,false,rfl,.inr ⟨rfl,rfl,rfl,ah.o⟩,aK B2.o (OJ _)⟩
  ·have d1:(kd !=1)=true:=by simpa using h1
   have ah:H_ (∀F kd nm d K,¬Msg L y F kd nm d K):=λF ab ad ag af hy=>h1 (HU.o F ab ad ag af hy).1;have⟨r,t,s⟩:=I.o.three;have rz:=I.o.frozen;have⟨f0,E,Q⟩:=T.o.three;go_wp2_with fail;have⟨Z,R,W⟩:=(I.o.aN (Zb 0) Zs Zs).three;exact UM (by simp[results,results247,go_sem,Z,R,W]) rfl ⟨0,_,false,rfl,.inr ⟨rfl,rfl,rfl,ah.o⟩,aK B2.o (OJ _)⟩
 ·have ah:H_ (∀F kd nm d K,¬Msg L y F kd nm d K):=λF ab ad ag af hy=>aT _ _ _ _ hy.1
  have⟨W2,ao⟩:=ZX (G.alloc (.cells #[Zi,Zs,Zs] 308));have D2:=beA ao;have T:=bxA ao;have I:=Y ((R0.o.later hB R0.o.lt).later D2.o (R0.o.later hB R0.o.lt).lt);have am:=D0.o.trans (hB.mono D0.o.size);have B2:=Y (am.trans (D2.o.mono am.size));clear aT hB am;go_upto_region 2 with fail;rw[<-ao.o];have⟨r,t,s⟩:=I.o.three;have rz:=I.o.frozen;have⟨f0,E,Q⟩:=T.o.three;go_wp2_with fail;have⟨Z,R,W⟩:=(I.o.aN (Zb 0) Zs Zs).three;exact UM (by simp[results,results247,go_sem,Z,R,W]) rfl ⟨0,_,false,rfl,.inr ⟨rfl,rfl,rfl,ah.o⟩,aK B2.o (OJ _)⟩
end
theorem cg.nil(B:Nat)(w:W_)(base:Nat):cg B w base Zs []:=⟨[],t8 w base _ 1,λi e c=>by simp at c⟩
theorem cg.mono{B:Nat}{w:W_}{base d:Nat}{v:V_}{c:List (List Int)}(h:cg B w base v c)(f:d<=base):cg B w d v c:=by
 have⟨e,h1,h2⟩:=h;exact⟨e,World.ownsRow.mono h1 f,h2⟩
namespace Mx
def kI(s:Sd)(i:Nat):List Int:=match s.q[i]? with
 |some f=>bF 1 (s.ses::(s.base+(i:Int))::f.kind::f.al) f.nb f.bs
 |none=>[]
theorem pG{s:Sd}{f:Fr}(h:s.q[i]?=f):kI s i=bF 1 (s.ses::(s.base+(i:Int))::f.kind::f.al) f.nb f.bs:=by unfold kI;rw[h]
def gU(s:Sd)(k:Nat):List (List Int):=(List.range k).map (kI s)
theorem Cu(s:Sd)(k:Nat):gU s (k+1)=gU s k++[kI s k]:=by unfold gU;rw[Ui,le];rfl
theorem uk(s:Sd)(k:Nat):(gU s k).length=k:=by unfold gU;simp
def kH(s:Sd):Nat:=min s.q.length 4
def eU(s:Sd):Int:=if bO s=0 then(if 0<s.q.length/\2147483647<s.base+(kH s:Int)-1 then 1 else 0) else bO s
def fT(s:Sd):List (List Int):=if eU s=0 then gU s (kH s) else []
theorem Jd{s:Sd}(h:bO s≠0):eU s=bO s:=by unfold eU;rw[UX h]
theorem Lk{s:Sd}{k:Nat}(h:bO s=0)(c:k<kH s)(h2:2147483647<s.base+(k:Int)):eU s=1:=by
 unfold eU;rw[UY h,UY];unfold kH at c ⊢;omega
theorem zT{s:Sd}(h:bO s=0)(h2:∀k:Nat,k<kH s->s.base+(k:Int)<=2147483647):eU s=0:=by
 unfold eU;rw[UY h,UX];intro c;have d:=h2 (kH s-1) (by unfold kH;omega);unfold kH at c d;omega
theorem Eg(h:may e.kind e.al e.nb=0):0<=e.kind/\e.kind<=15/\e.nb<=32/\e.al.any bH=false:=by
 unfold may at h;split at h
 ·omega
 ·next h1=>
  split at h
  ·omega
  ·next h2=>
   split at h
   ·omega
   ·next c=>exact⟨by omega,by omega,by omega,by simpa using c⟩
theorem wD{x:Int}(h:cO e=0)(h1:0<=y/\y<=2147483647)(h2:0<=x):may 1 (y::x::e.kind::e.al) e.nb=if 2147483647<x then 1 else 0:=by
 have⟨d,q⟩:=zx h;have⟨o,r,k,f⟩:=Eg d;unfold may;rw[UX (by omega),UX (by simp;omega)];have j:bH y=false:=by unfold bH;simp;omega
 have i:bH e.kind=false:=by unfold bH;simp;omega
 rw[List.any_cons,List.any_cons,List.any_cons,j,i,f];by_cases c:2147483647<x
 ·rw[UY c,UY (by unfold bH;simp;omega)]
 ·rw[UX c,UX (by unfold bH;simp;omega)]
end Mx
theorem Ec{e:List Fr}(hq:FL u q k e)(aE:k<=c):
 C_ prog 191 #[.agg #[y,z,(q,k,c)]] u λf w'=>∃v,f=Zr #[v,aJ (eU ⟨y,z,e⟩)]/\H_ (cg u w' u v (fT ⟨y,z,e⟩))/\H_ (OS u w'):=by
 have⟨W0,af⟩:=ZX (u.alloc (.cells #[y,z,(q,k,c)] 237));have X0:=bxA af;have D0:=beA af;have HQ:=Y (hq.later D0);have HN:=Y hq.1;clear hq;go_enter func191,ntmps191;go_wp2_with fail;rw[<-af];refine(mJ y z c e HQ).mono ?_;rintro f w1 ⟨rfl,D1⟩;have Z:=Y (X0.later D1 X0.lt);have B1:=Y (D0.t D1);by_cases h:bO ⟨y,z,e⟩=0
 ·have HM:=Y h;have r:=Y (qo h);have aK:k<=64:=by have h1:e.length<=64:=r.2.1;have h2:=HN.o;omega
  have aM:0<=z:=r.1.2.2.1;have aI:z<=2147483647:=r.1.2.2.2;rw[h,aQ];clear h;have⟨x0,x1,X⟩:=Z.three;have Q1:=Y (HQ.later D1);go_wp2_with fail;refine(sh y z q w1 (by omega) aE).mono ?_;rintro f K ⟨rfl,D2⟩;have T:=Y (Z.later D2 Z.lt);have B2:=Y (B1.t D2);have Q2:=Y (Q1.later D2);have⟨M,R⟩:=ZX (min k 4);rw[<-R];have ag:=Y (show kH ⟨y,z,e⟩=M by rw[R,<-HN];rfl);have aF:M<=4:=by rw[R];omega
  have aw:M<=k:=by rw[R];omega
  have T2:=Y (Q2.take M aw);clear x0 x1 X;go_wp2_with fail;go_loopw [5,18] (λv V wr=>∃d:Nat,d<=M/\V=Zb (d:Int)/\H_ (∀j:Nat,j<d->z+(j:Int)<=2147483647)/\H_ (cg u wr K v (gU ⟨y,z,e⟩ d))/\H_ (OS K wr)) (λ_ V _=>M-(intOf V).toNat)
  case atStart=>exact⟨0,by omega,rfl,(λj N=>by omega),cg.nil _ _ _,ce _ _⟩
  case round=>
   obtain⟨d,hk,rfl,hG,hO,G⟩:=hrel;have au:=Y (B2.t G);by_cases aj:d<M
   ·have⟨b,aG,O,a1,n1,c1,a2,c2,aC,aL,hx,e0,e1,e2,t,ah,_⟩:=(T2.later G).at_ d aj;subst aC;have HX:H_ (e[d]?=O):=(by rw[Uo,UY aj] at hx;exact hx);have ao:=Y (r.2.2 O (OR HX));have aB:=Y (kT ao);have ar:=Y (wD (x:=z+(d:Int)) ao ⟨r.1.1,r.1.2.1⟩ (by omega));have ay:=Y (pG (s:=⟨y,z,e⟩) HX);have⟨E,nm,C,bs⟩:=O;dsimp only at e0 e1 e2 t ah;have aD:n1<=1000:=by have h1:nm.length<=1000:=aB.1;have h2:=t.1;omega
    have⟨w3,ab⟩:=ZX (wr.alloc (.cells #[E,(a1,n1,c1),(a2,C,c2)] 308));have o:=beA ab;have Y3:=bxA ab;have X3:=Y ((T.later G T.lt).later o (T.later G T.lt).lt);have I3:=Y (t.later o);have K3:=Y (ah.later o);have O3:=Y (hO.later o);have B3:=Y (au.t o);have E3:=Y (G.t o);have aH:IntKind.i64.wrap (z+(d:Int))=z+(d:Int):=by rw[IntWalk.i64_left,IntWalk.wrap64_in _ (by omega)]
    clear hx t ah;go_upto_region 8 with fail;rw[<-ab];clear e0 e1 e2;have⟨x0,x1,X⟩:=X3.three;have⟨y0,y1,y2⟩:=Y3.three;go_wp2_with fail;refine(Ed (y:=y) (z:=z+(d:Int)) (t:=E) (U:=a2) (c1:=c1) (c:=C) (c2:=c2) I3 aD).mono ?_;rintro f w4 ⟨xa,xc,rfl,I4,J⟩;have K4:=Y (K3.later J);have O4:=Y (O3.later J);have B4:=Y (B3.t J);have E4:=Y (E3.t J);clear x0 x1 X y0 y1 y2;by_cases D:2147483647<z+(d:Int)
    ·have Q:H_ (may 1 (y::(z+(d:Int))::E::nm) C=1):=by have F:=ar.o;rw[UY D] at F;exact F
     have i:=Y (Lk (s:=⟨y,z,e⟩) (k:=d) HM (by rw[ag];exact aj) D);have I:=Y (show fT ⟨y,z,e⟩=[] by unfold fT;rw[i,UX (by decide)]);have av:aJ 1=Zf 1:=rfl;clear D;go_wp2_with fail;refine(IB (x:=1) (q:=a2) (c1:=xc) (c2:=c2) I4 K4.2.1 (by rw[Q];decide)).mono ?_;rintro f w5 ⟨rfl,H⟩;rw[Q,av];have B5:=Y (B4.t H);go_wp2_with fail;exact UM (v:=.tuple #[Zs,Zf 1]) (by simp[results,results191,go_sem]) rfl ⟨_,by rw[i]<;>rfl,by rw[I];exact cg.nil _ _ _,B5⟩
    ·have Q:H_ (may 1 (y::(z+(d:Int))::E::nm) C=0):=by have F:=ar.o;rw[UX D] at F;exact F
     have HG:=Y (show ∀j:Nat,j<d+1->z+(j:Int)<=2147483647 from λj N=>by
      by_cases aA:j=d
      ·subst aA
       omega
      ·exact hG j (by omega))
     clear D;go_wp2_with fail;refine(sJ xc c2 I4 K4 Q).mono ?_;rintro f w5 ⟨v5,rfl,am,H⟩;have⟨pa,pc,aq,ai,ak,ad⟩:=am.br;have⟨pn,az⟩:=ZX ((bF 1 (y::(z+(d:Int))::E::nm) C bs).length);rw[<-az] at aq ai ak;subst aq;have P5:H_ (BR w5 pa pn (kI ⟨y,z,e⟩ d)):=(by rw[ay];exact ak);have C5:=Y ai;have B5:=Y (B4.t H);have W:=Y (E4.t H);have O5:=Y (O4.later H);have Q5:H_ (0<pn->∀p,pa=some p->u5.ownBlock≠some p.block/\u.heap.size<=p.block):=λ_ p hp=>⟨λf=>by have h1:=(O4.lt _ f).2;have h2:=ad p hp;omega,by have h2:=ad p hp;have h3:=B4.size;omega⟩;have ax:=Y (show(gU ⟨y,z,e⟩ d).length<=1000000 by rw[uk];omega);clear ai ak ad am;go_wp2_with (at_builtin;refine qy (w:=w5) rfl rfl (k:=u) (j:=K) (f:=gU ⟨y,z,e⟩ d) ?o1 (q:=pa) (i:=pn) (c:=pc) (L:=kI ⟨y,z,e⟩ d) ?o2 ?o3 ?o4 rfl ?o6 ?o7 ?_);case o1=>exact O5
     case o2=>exact P5
     case o3=>exact C5
     case o4=>exact Q5
     case o6=>exact ax
     case o7=>exact W.size
     intro v6 w6 an ap;have O6:H_ (cg u w6 K v6 (gU ⟨y,z,e⟩ (d+1))):=(by rw[Cu];exact an);have E6:=Y (W.grown ap W.size (λal t=>(O5.lt al t).1));clear an ap;go_wp2_with fail;go_roundw
     case rel=>exact⟨d+1,by omega,by go_num,HG,O6,E6⟩
     case measure=>simp[intOf];omega
   ·obtain rfl:d=M:=by omega
    have i:=Y (zT (s:=⟨y,z,e⟩) HM (λj N=>hG j (by rw[ag] at N;exact N)));have I:=Y (show fT ⟨y,z,e⟩=gU ⟨y,z,e⟩ d by unfold fT;rw[i,UY rfl,ag]);go_wp2_with fail;exact UM (v:=.tuple #[u5,Zn]) (by simp[results,results191,go_sem]) rfl ⟨_,by rw[i]<;>rfl,by rw[I];exact hO.mono B2.size,au⟩
 ·have i:=Y (Jd h);have I:=Y (show fT ⟨y,z,e⟩=[] by unfold fT;rw[i,UX h]);have HE:=Y (bJ h);rw[HE];clear h;go_wp2_with fail;exact UM (v:=.tuple #[Zs,Zf (bO ⟨y,z,e⟩)]) (by simp[results,results191,go_sem]) rfl ⟨_,by rw[i,HE],by rw[I];exact cg.nil _ _ _,B1⟩
theorem tR{e:W_}(h:Own u k V L)(i:u.grownBy e (some c))(j:c<k):Own e k V L:=
 World.ownsRow.kept h i (by
  cases hv:V.ownBlock with
  |none=>exact .inl rfl
  |some d=>
   right;intro f;have h1:=(World.ownsRow.lt h d hv).1;have h2:d=c:=OG f;omega)
theorem Bx.Mn{g:Nat}{d:Array V_}(h:Bx u k d O)(c:k≠g)(f e i:V_):Bx (cP u g f e i) k d O:=((h.other _ _ c).other _ _ c).other _ _ c
def NQ(w w':W_)(l:List Int)(ses want:Int)(e:Ending):Prop:=
 ((∃kd nm nb bs v vb,Msg l ses want kd nm nb bs/\want<2147483647/\e=Zr #[.agg #[Zb ses,Zb (want+1)],v,Zl true,vb,Zn]/\FrA w w' v ⟨kd,nm,nb,bs⟩/\Own w' w vb (bF 0 [ses,want+1] 0 []))\/
  (∃x kd nm nb bs vb,Msg l ses x kd nm nb bs/\¬(x=want/\want<2147483647)/\e=Zr #[.agg #[Zb ses,Zb want],.agg #[Zb 0,Zs,Zs],Zl false,vb,Zn]/\Own w' w vb (bF 0 [ses,want] 0 []))\/
  ((∀x kd nm nb bs,¬Msg l ses x kd nm nb bs)/\e=Zr #[.agg #[Zb ses,Zb want],.agg #[Zb 0,Zs,Zs],Zl false,Zs,Zn]))/\OS w w'
theorem Mx.sI{x y:Int}(d:0<=x)(e:x<=2147483647)(c:0<=y)(f:y<=2147483647):may 0 [x,y] 0=0:=by
 unfold may;rw[UX (by omega),UX (by simp),UX];simp[bH];omega
theorem Ic{v:W_}{P:Ending->W_->Prop}{c1 c2:Nat}{nm bs:List Int}(ag:0<=y)(ab:y<=2147483647)(af:0<=z)(ad:z<=2147483647)(BL:H_ (OS u v))(O:H_ (Bx v (u+1) #[y,z] 223))(C:H_ (Bx v (u+1+1) #[t,(q,k,c1),(U,c,c2)] 308))(HI:H_ (aD v q k nm))(HK:H_ (bm v U c bs))(H1:H_ (0<k->∀p,q=some p->u.heap.size+3<=p.block))(Z:H_ (0<c->∀p,U=some p->u.heap.size+3<=p.block))(hP:H_ (∀d K,Own d u K (bF 0 [y,z] 0 [])->aD d q k nm->bm d U c bs->OS u d->P (Zr #[.agg #[y,z],.agg #[t,(q,k,c1),(U,c,c2)],Zl R,K,Zn]) d)){u8 u9 OX Pa Pb Pc Pd Pe Pf Pg Ph Pj Pl Pm Pn Po Pp Pq Ps Pu Pv Pw Px Py Pz PE PG PH PI PJ PK PM PO PQ PR PS PT PU PX PY PZ P9 Qa Qb Qc Qd Qe Qf Qg Qh Qi Qj Qk Ql Qm Qn Qo Qp:V_}:
 aA Tryz.f228 P 6 ⟨#[V,N,(u,0),J,.pointer (some (u.heap.size+1,0)),.pointer (some (u.heap.size+1+1,0)),.bool R,H,u8,u9,OX,Pa,Pb,Pc,Pd,Pe,Pf,Pg,Ph,Pj,Pl,Pm,Pn,Po,Pp,Pq,Ps,Pu,Pv,Pw,Px,Py,Pz,PE,PG,PH,PI,PJ,PK,PM,PO,PQ,PR,PS,PT,PU,PX,PY,PZ,P9,Qa,Qb,Qc,Qd,Qe,Qf,Qg,Qh,Qi,Qj,Qk,Ql,Qm,Qn,Qo,Qp],[]⟩ v:=by
 refine aj rfl ?_;intro al hK;have⟨j,r⟩:=ZX (v.alloc (.cells #[y,z] 3));have Q:=bxA r;have D0:=beA r;have I0:=Y (show aD j (some ⟨v,0,none⟩) 2 [y,z] from⟨rfl,by rw[aG];omega,λ_=>⟨v,0,rfl,Q.lt,λam hi=>by
  match am,hi with
  |0,_=>exact Q.cell 0
  |1,_=>exact Q.cell 1⟩⟩)
 have K0:=Y (show bm j none 0 [] from⟨rfl,by rw[aG];omega,λ_ h=>(by cases h),λh=>absurd h (by omega)⟩);have HM:=Y (sI ag ab af ad);clear ag ab af ad;have⟨o,s⟩:=O.pair;go_wp2_with fail;rw[<-r];refine(sJ 2 0 I0 K0 HM).mono ?_;rintro e X ⟨K,rfl,O1,D1⟩;have i:=Y (D0.t D1);have ap:=BL.size;have aq:=C.lt;have av:j=v.heap.size+1:=by rw[r];simp
 have T:=Y (O.later i O.lt);have F:=Y (C.later i C.lt);have ah:=Y (HI.later i);have ai:=Y (HK.later i);have ak:=Y (BL.t i);have O2:=Y O1;clear O1 D1 o s;go_wp2_with fail;refine Met.intro (bg (c:=.seq _ .ret) rfl ?_);try clear hK
 try clear al
 have⟨o,s⟩:=T.pair;have⟨m0,m1,m2⟩:=F.three;have xz:=T.frozen;have mz:=F.frozen;have ao:¬u.heap.size+1=u+1+1:=by omega
 have ar:¬u.heap.size+1+1=u.heap.size+1:=by omega
 have NA:=Y (T.gT (Zb y) (Zb z));have MA:=Y ((F.other ⟨u+1,0,none⟩ (Zb y) (by simp)).other ⟨u+1,1,none⟩ (Zb z) (by simp));have NB:=Y (NA.Mn (g:=u+1+1) (by omega) (Zb t) (q,k,c1) (U,c,c2));have MB:=Y (MA.aN (Zb t) (q,k,c1) (U,c,c2));unfold cP at NB;have⟨y0,y1⟩:=NA.pair;have⟨z0,z1,z2⟩:=MA.three;have⟨E,p1⟩:=NB.pair;have⟨W,G,M⟩:=MB.three;go_upto_region 11 with fail;go_region_held3 (λd=>d.cell? (u.heap.size+1,0)=Zb y/\d.cell? (u.heap.size+1,1)=Zb z/\d.cell? (u.heap.size+1+1,0)=Zb t/\d.cell? (u.heap.size+1+1,1)=(q,k,c1)/\d.cell? (u.heap.size+1+1,2)=(U,c,c2))
  (first|with_reducible exact⟨o,s,m0,m1,m2⟩|(simp only[an];with_reducible exact⟨o,s,m0,m1,m2⟩)|(simp only[an];with_reducible exact⟨y0,y1,z0,z1,z2⟩)|(simp only[an];with_reducible exact⟨E,p1,W,G,M⟩)|(with_reducible exact⟨y0,y1,z0,z1,z2⟩)|(with_reducible exact⟨E,p1,W,G,M⟩))
  (fail)
 all_goals go_wp2_with fail
 all_goals
  have I:=Y (kf (au X (J:=some (u+1))) (V:=Zb y) (U:=Zb z));have D:=Y (cZ (bI (au (fq X (u+1) (Zb y) (Zb z)) (J:=some (u+1+1))) (Zb t) (q,k,c1) (U,c,c2)));have IF:=Y ((ah.grownBy I (λh p f e=>by have h1:=H1 h p f;have h2:u.heap.size+1=p.block:=OG e;omega)).grownBy D (λh p f e=>by have h1:=H1 h p f;have h2:u+1+1=p.block:=OG e;omega));have KF:=Y ((ai.grownBy I (λh p f e=>by have h1:=Z h p f;have h2:u.heap.size+1=p.block:=OG e;omega)).grownBy D (λh p f e=>by have h1:=Z h p f;have h2:u+1+1=p.block:=OG e;omega));have BF:=Y ((aK (eK ak (g:=u+1) (by omega) (V:=Zb y) (U:=Zb z)) (g:=u+1+1) (by omega) (V:=Zb t) (U:=(q,k,c1)) (H:=(U,c,c2))).drew);have OF:=Y (World.ownsRow.mono (tR (tR O2 I (by omega)) D (by omega)) (show u<=j.heap.size+1 by omega));exact UM (by simp[results,results228,go_sem,E,p1,W,G,M]) rfl (hP _ _ OF IF KF BF)
theorem iP(hl:Bytes u q k L)(aE:k≤2000)(aB:k≤c)(ai:0≤y)(al:y≤2147483647)(ar:0≤z)(aq:z≤2147483647):
 C_ Tryz.prog 228 #[.agg #[.int .i64 y,.int .i64 z],.slice q k c] u λe t=>NQ u t L y z e:=by
 have HL:=Y hl;clear hl;obtain⟨o,Q⟩:∃o:W_,H_ (o=((u.alloc (.cells #[.int .i64 y,.int .i64 z] 223)).alloc (.cells #[.int .i64 0,.int .i64 0] 223)).alloc (.cells #[.int .i64 0,.slice none 0 0,.slice none 0 0] 308)):=⟨_,rfl⟩;have X0:=Y (show Bx o u.heap.size #[.int .i64 y,.int .i64 z] 223 by rw[Q.o];exact((Bx.new u _ _).alloc _).alloc _);have N0:=Y (show Bx o (u.heap.size+1) #[.int .i64 0,.int .i64 0] 223 by
  rw[Q.o];have h:=(Bx.new (u.alloc (.cells #[.int .i64 y,.int .i64 z] 223)) #[.int .i64 0,.int .i64 0] 223).alloc (.cells #[.int .i64 0,.slice none 0 0,.slice none 0 0] 308);rw[dl] at h;exact h)
 have M0:=Y (show Bx o (u.heap.size+1+1) #[.int .i64 0,.slice none 0 0,.slice none 0 0] 308 by
  rw[Q.o];have h:=Bx.new ((u.alloc (.cells #[.int .i64 y,.int .i64 z] 223)).alloc (.cells #[.int .i64 0,.int .i64 0] 223)) #[.int .i64 0,.slice none 0 0,.slice none 0 0] 308;rw[dl,dl] at h;exact h)
 have S0:=Y (show o.heap.size=u.heap.size+3 by rw[Q.o];simp);have D0:=Y (show OS u o by rw[Q.o];exact((af).alloc (by simp) _).alloc (by simp;omega) _);obtain⟨W1,ag⟩:∃W1:W_,H_ (W1=o.alloc (.cells #[.int .i64 y,.int .i64 z] 3)):=⟨_,rfl⟩;have Z1:=bxA ag;have D1:=beA ag;have X1:=Y (X0.o.later D1.o X0.o.lt);have N1:=Y (N0.o.later D1.o N0.o.lt);have M1:=Y (M0.o.later D1.o M0.o.lt);have B1:=Y (D0.o.trans (D1.o.mono D0.o.size));have I1:=Y (show aD W1 (some ⟨o.heap.size,0,none⟩) 2 [y,z] from⟨rfl,by rw[aG];omega,λ_=>⟨o.heap.size,0,rfl,Z1.o.lt,λaC hi=>by
  match aC,hi with
  |0,_=>exact Z1.o.cell 0
  |1,_=>exact Z1.o.cell 1⟩⟩)
 go_enter Tryz.func228,Tryz.ntmps228;change aA Tryz.f228 _ 0 _ u;refine aj rfl ?_;intro K f;go_wp2_with fail;rw[←Q.o];refine Met.intro (aj rfl ?_);try clear f K
 intro K f;have⟨H,j⟩:=X0.o.pair;go_wp2_with fail;rw[←ag.o];refine(kp 2 I1.o (by omega)).mono ?_;rintro e wz ⟨rfl,hz⟩;obtain rfl:=hz.symm;clear hz H j;have HB:=Y (show lD [y,z]=0 by rw[pZ,UX (by unfold dZ;omega)]);rw[HB.o,aQ];go_wp2_with fail;refine Met.intro (aj rfl ?_);try clear f K
 intro K f;have⟨H,j⟩:=X1.o.pair;go_wp2_with fail;refine(ym (y:=y) (HL.o.later B1.o) aE aB).mono ?_;rintro e s ⟨x,v,ok,rfl,hA,hB⟩;have S1:=Y (show W1.heap.size=u.heap.size+4 by rw[ag.o];simp;exact S0.o);have X2:=Y (X1.o.later hB.o X1.o.lt);have N2:=Y (N1.o.later hB.o N1.o.lt);have M2:=Y (M1.o.later hB.o M1.o.lt);have B2:=Y (B1.o.trans (hB.o.mono B1.o.size));clear H j;rcases hA.o with ⟨rfl,D,nm,C,W,hM,aF⟩|⟨rfl,rfl,rfl,ax⟩
 ·have HM:=Y hM;obtain⟨M,E,c1,I,c2,rfl,hI,az,am,ay,av,ao⟩:=aF;obtain⟨F,T⟩:∃F:W_,H_ (F=s.alloc (.cells #[.int .i64 D,.slice M E c1,.slice I C c2] 308)):=⟨_,rfl⟩;have i:=beA T;have F3:=bxA T;have X3:=Y (X2.o.later i.o X2.o.lt);have G:=Y (N2.o.later i.o N2.o.lt);have N:=Y (M2.o.later i.o M2.o.lt);have B3:=Y (B2.o.trans (i.o.mono B2.o.size));have I3:=Y (hI.later i.o);have K3:=Y (az.later i.o);have V:=Y (show 0<E→∀p,M=some p→u.heap.size+3≤p.block from λh p d=>by have h1:=av h p d;have h2:=S1.o;omega);have P2:=Y (show 0<C→∀p,I=some p→u.heap.size+3≤p.block from λh p d=>by have h1:=ao h p d;have h2:=S1.o;omega);have C1:=Y am;have C2:=Y ay;have aP:u.heap.size+4≤s.heap.size:=by have h1:=hB.o.size;have h2:=S1.o;omega
  clear hI az am ay av ao hM hA;go_wp2_with fail;rw[←T.o];refine Met.intro (aj rfl ?_);try clear f K
  intro K f;go_wp2_with fail;refine Met.intro (aj rfl ?_);try clear f K
  intro K f;have⟨H,j⟩:=X3.o.pair;have⟨n0,ap⟩:=G.o.pair;have nz:=G.o.frozen;obtain⟨r,ad⟩:∃r:W_,H_ (r=fq F (u.heap.size+1) (.int .i64 y) (.int .i64 z)):=⟨_,rfl⟩;have Z:=Y (show F.grownBy r (some (u.heap.size+1)) by rw[ad.o];exact kf (au _));have N4:=Y (show Bx r (u.heap.size+1) #[.int .i64 y,.int .i64 z] 223 by rw[ad.o];exact G.o.gT _ _);have X4:=Y (show Bx r u.heap.size #[.int .i64 y,.int .i64 z] 223 from(Z.o.block _ X3.o.lt (by simp)).trans X3.o);have R:=Y (show Bx r (u.heap.size+1+1) #[.int .i64 0,.slice none 0 0,.slice none 0 0] 308 from(Z.o.block _ N.o.lt (by simp)).trans N.o);have F4:=Y (show Bx r s.heap.size #[.int .i64 D,.slice M E c1,.slice I C c2] 308 from(Z.o.block _ F3.o.lt (by simp;omega)).trans F3.o);have I4:=Y (I3.o.grownBy Z.o (λh p d e=>by have h1:=V.o h p d;have h2:u.heap.size+1=p.block:=OG e;omega));have K4:=Y (K3.o.grownBy Z.o (λh p d e=>by have h1:=P2.o h p d;have h2:u.heap.size+1=p.block:=OG e;omega));have B4:=Y (show OS u r by rw[ad.o];exact eK B3.o (by omega));go_wp2_with fail;unfold fq at ad;rw[←ad.o];clear H j n0 ap nz;refine Met.intro (aj rfl ?_);try clear f K
  intro K f;have⟨H,j⟩:=X4.o.pair;by_cases U:x=z
  ·have dx:(x==z)=true:=by simpa using U
   have HX:=Y U;clear U;by_cases hm:z<2147483647
   ·have dm:decide (z<2147483647)=true:=by simpa using hm
    have⟨n0,ap⟩:=N4.o.pair;have⟨m0,m1,m2⟩:=R.o.three;have⟨f0,f1,f2⟩:=F4.o.three;have nz:=N4.o.frozen;have mz:=R.o.frozen;have aO:IntKind.i64.wrap (z+1)=z+1:=by rw[IntWalk.i64_left,IntWalk.wrap64_in _ (by omega)]
    have aI:¬u.heap.size+1=s.heap.size:=by omega
    have aN:¬u.heap.size+1=u.heap.size+1+1:=by omega
    have aH:¬u.heap.size+1=u.heap.size:=by omega
    have aL:¬u.heap.size+1+1=u.heap.size:=by omega
    have aM:¬u.heap.size+1+1=s.heap.size:=by omega
    go_upto_region 9 with fail;go_region_held3 (λt=>t.cell? ⟨u.heap.size,1,none⟩=some (.int .i64 z)∧t.cell? ⟨s.heap.size,0,none⟩=some (.int .i64 D)∧t.cell? ⟨s.heap.size,1,none⟩=some (.slice M E c1)∧t.cell? ⟨s.heap.size,2,none⟩=some (.slice I C c2))
     (first
       |with_reducible exact⟨j,f0,f1,f2⟩
       |(simp only[an];with_reducible exact⟨j,f0,f1,f2⟩)
       |(simp only[aw aI,aw aH,aw aL,aw aM,an];with_reducible exact⟨j,f0,f1,f2⟩))
     (fail)
    all_goals go_wp2_with fail
    all_goals
     obtain⟨J,ah⟩:∃J:W_,H_ (J=r.setCell ⟨u.heap.size+1,1,none⟩ (.int .i64 (z+1))):=⟨_,rfl⟩;obtain⟨O,ab⟩:∃O:W_,H_ (O=(cP J (u.heap.size+1+1) (.int .i64 D) (.slice M E c1) (.slice I C c2)).drew):=⟨_,rfl⟩;have G5:=Y (show r.grownBy J (some (u.heap.size+1)) by rw[ah.o];exact ak (au _) _ _);have G6:=Y (show J.grownBy O (some (u.heap.size+1+1)) by rw[ab.o];exact cZ (bI (au _) _ _ _));have N5:=Y (show Bx J (u.heap.size+1) #[.int .i64 y,.int .i64 (z+1)] 223 by rw[ah.o];exact N4.o.set 1 _);have N6:=Y (show Bx O (u.heap.size+1) #[.int .i64 y,.int .i64 (z+1)] 223 from(G6.o.block _ N5.o.lt (by simp)).trans N5.o);have M5:=Y (show Bx J (u.heap.size+1+1) #[.int .i64 0,.slice none 0 0,.slice none 0 0] 308 from(G5.o.block _ R.o.lt (by simp)).trans R.o);have M6:=Y (show Bx O (u.heap.size+1+1) #[.int .i64 D,.slice M E c1,.slice I C c2] 308 by rw[ab.o];exact M5.o.aN _ _ _);have I6:=Y ((I4.o.grownBy G5.o (λh p d e=>by have h1:=V.o h p d;have h2:u.heap.size+1=p.block:=OG e;omega)).grownBy G6.o (λh p d e=>by have h1:=V.o h p d;have h2:u.heap.size+1+1=p.block:=OG e;omega));have K6:=Y ((K4.o.grownBy G5.o (λh p d e=>by have h1:=P2.o h p d;have h2:u.heap.size+1=p.block:=OG e;omega)).grownBy G6.o (λh p d e=>by have h1:=P2.o h p d;have h2:u.heap.size+1+1=p.block:=OG e;omega));have B6:=Y (show OS u O by rw[ab.o,ah.o];exact(aK (B4.o.setCell (p:=⟨u.heap.size+1,1,none⟩) (by simp) _) (by omega)).drew);unfold cP at ab;rw[←ah.o,←ab.o];refine Met.intro (Ic ai al (by omega) (by omega) B6 N6 M6 I6 K6 V P2 (Y ?_));intro t vb X hi hk hb;exact⟨.inl ⟨D,nm,C,W,_,vb,by have h1:=HM.o;rw[HX.o] at h1;exact h1,hm,rfl,⟨M,E,c1,I,c2,rfl,hi,hk,C1.o,C2.o,λh p d=>by have h1:=V.o h p d;omega,λh p d=>by have h1:=P2.o h p d;omega⟩,X⟩,hb⟩
   ·have dm:decide (z<2147483647)=false:=by simpa using hm
    go_wp2_with fail;refine Met.intro (Ic ai al ar aq B4 N4 R (nm:=[]) (bs:=[]) (Y ⟨rfl,by rw[aG];omega,λh=>absurd h (by omega)⟩) (Y ⟨rfl,by rw[aG];omega,λ_ h=>(by cases h),λh=>absurd h (by omega)⟩) (Y (λh=>absurd h (by omega))) (Y (λh=>absurd h (by omega))) (Y ?_));intro t vb X _ _ hb;exact⟨.inr (.inl ⟨x,D,nm,C,W,vb,HM.o,λh=>(by have:=h.2;omega),rfl,X⟩),hb⟩
  ·have dx:(x==z)=false:=by simpa using U
   have HX:=Y U;clear U;go_wp2_with fail;refine Met.intro (Ic ai al ar aq B4 N4 R (nm:=[]) (bs:=[]) (Y ⟨rfl,by rw[aG];omega,λh=>absurd h (by omega)⟩) (Y ⟨rfl,by rw[aG];omega,λ_ h=>(by cases h),λh=>absurd h (by omega)⟩) (Y (λh=>absurd h (by omega))) (Y (λh=>absurd h (by omega))) (Y ?_));intro t vb X _ _ hb;exact⟨.inr (.inl ⟨x,D,nm,C,W,vb,HM.o,λh=>HX.o h.1,rfl,X⟩),hb⟩
 ·have aJ:=Y ax;obtain⟨F,T⟩:∃F:W_,H_ (F=s.alloc (.cells #[.int .i64 0,.slice none 0 0,.slice none 0 0] 308)):=⟨_,rfl⟩;have i:=beA T;have X3:=Y (X2.o.later i.o X2.o.lt);have G:=Y (N2.o.later i.o N2.o.lt);have N:=Y (M2.o.later i.o M2.o.lt);have B3:=Y (B2.o.trans (i.o.mono B2.o.size));clear hA ax;go_wp2_with fail;rw[←T.o];refine Met.intro (aj rfl ?_);try clear f K
  intro K f;have⟨H,j⟩:=X3.o.pair;have⟨n0,E⟩:=G.o.pair;have nz:=G.o.frozen;have⟨m0,m1,m2⟩:=N.o.three;have mz:=N.o.frozen;go_wp2_with fail;have NF:=Y ((G.o.gT (.int .i64 y) (.int .i64 z)).Mn (g:=u.heap.size+1+1) (by omega) (.int .i64 0) (.slice none 0 0) (.slice none 0 0));have MF:=Y (show Bx (fq F (u.heap.size+1) (.int .i64 y) (.int .i64 z)) (u.heap.size+1+1) #[.int .i64 0,.slice none 0 0,.slice none 0 0] 308 from(N.o.other _ _ (by simp)).other _ _ (by simp));have⟨t0,t1⟩:=NF.o.pair;have⟨r0,r1,r2⟩:=(MF.o.aN (.int .i64 0) (.slice none 0 0) (.slice none 0 0)).three;unfold cP at t0 t1;unfold fq at r0 r1 r2;exact UM (v:=.tuple #[.agg #[.int .i64 y,.int .i64 z],.agg #[.int .i64 0,.slice none 0 0,.slice none 0 0],.bool false,.slice none 0 0,.nilIface]) (by simp[results,Tryz.results228,go_sem,t0,t1,r0,r1,r2]) rfl ⟨.inr (.inr ⟨aJ.o,rfl⟩),aK (eK B3.o (by omega)) (by omega)⟩
def rL(w:W_)(P:Nat)(v2 v3 v4 v5:V_):W_:=(((w.setCell ⟨P,2,none⟩ v2).setCell ⟨P,3,none⟩ v3).setCell ⟨P,4,none⟩ v4).setCell ⟨P,5,none⟩ v5
theorem jn(w:W_)(P:Nat):w.grownBy (rL w P V N J H) (some P):=ak (ak (ak (ak (au w) _ _) _ _) _ _) _ _
theorem Fk(p:Pf_)(hm:Mut T u)(hp:PrW Z T u k c W X p)(M:aY X c=0)(h0:0<=y)(h1:y<(c:Int)):
 C_ prog 115 #[(k,0),y,d] u λR r=>R=Zv Zn/\H_ (PrD Z T u r k c W (gV X ⟨y,d⟩) p):=by
 obtain⟨g,oa,on,oc,sa,sn,sc,m,qa,qn,qc,ha,hn,hc,aA⟩:=hp;obtain⟨e,am⟩:=ZX (u.alloc (.cells d 65));have B0:=bxA am;have D0:=beA am;have aR:u<e.heap.size:=B0.lt;have HX:=Y (aA.later D0);have ad:=Y (hm.later D0);have NE:=Y aA.ne;have aI:=Y M;have aS:k<e:=Bx.lt HX.bx;clear aA hm M;go_enter func115,ntmps115;go_upto_region 1 with fail;rw[<-am];obtain⟨x0,x1,x2,x3,x4,x5,x6,x7,x8,x9,aG,aF,aC,aD⟩:=HX.bx.cells;obtain⟨u0,u1,u2,u3,u4,u5,u6,u7⟩:=Bx.bL B0;clear x0 x6 x7 x8 x9 aG aF aC aD;have UB:H_ (Buo T e.drew oa on oc sa sn sc X.op X.se):=HX.r.bu.ext (Ex.below (Below.refl _ _).drew);have UA:=Y (show Buo (λX=>T X\/X=e) (e.alloc (.cells #[Zi,Zs,Zs,Zl false] 233)).drew oa on oc sa sn sc X.op X.se from(HX.r.bu.wd ((Wd.refl T e).add (OJ _))).ext (Ex.below (af).drew));have t:k<e:=(by assumption);have o:u<e.heap.size:=(by assumption);have aL:¬e=k:=by omega
 have aP:¬e=u.heap.size:=by omega
 have DA:=Y (show OS e (e.alloc (.cells #[Zi,Zs,Zs,Zl false] 233)).drew from(af).drew);have DB:=Y (show OS e e.drew from(Below.refl _ _).drew);have XA:H_ (Bx (e.alloc (.cells #[Zi,Zs,Zs,Zl false] 233)).drew e #[Zi,Zs,Zs,Zl false] 233):=Bx.dC e _ _;have aU:¬T e:=λhs=>by have:=ad.lt _ hs;omega
 have MA:=Y (show Mut (λX=>T X\/X=e) (e.alloc (.cells #[Zi,Zs,Zs,Zl false] 233)).drew from(ad.later DA).add XA (eA rfl));have MB:=Y (ad.later DB);have WA:=Y (show Wd T (λX=>T X\/X=e) e from(Wd.refl T e).add (OJ _));go_region_held3 (λr=>r.cell? (k,1)=Zb (c:Int)/\r.cell? (k,2)=Zb X.num/\r.cell? (k,3)=(oa,on,oc)/\r.cell? (k,4)=(sa,sn,sc)/\r.cell? (k,5)=Zl X.be/\r.cell? u=Za d.z0/\r.cell? (u,1)=Za d.z1/\r.cell? (u,2)=Za d.z2/\r.cell? (u,3)=Za d.z3/\r.cell? (u,4)=Za d.z4/\r.cell? (u,5)=Za d.z5/\r.cell? (u,6)=Za d.z6/\r.cell? (u,7)=Za d.z7)
  (first|((try simp only[an,aq t,aq o]);with_reducible exact⟨x1,x2,x3,x4,x5,u0,u1,u2,u3,u4,u5,u6,u7⟩)|((try simp only[aq aH,aq aE,aw aL,aw aP]);with_reducible exact⟨ag,ao,aB,al,az,ar,ai,ay,aj,ah,av,ax,ap⟩))
  (first|(go_at_call 144;(with_reducible refine(yS (Z:=T) (X:=X) (q:=oa) (k:=on) (c:=oc) (U:=sa) (j:=sn) (i:=sc) (h:=c) (F:=⟨y,d⟩) (u:=e.drew) MB.o UB.o aI.o h0 h1).mono ?_);rintro R s ⟨G,D,L,C,E,I,rfl,U2,E2⟩;have f:=Y (DB.t E2);have ag:=(f.cell (p:=(k,1)) t).trans x1;have ao:=(f.cell (p:=(k,2)) t).trans x2;have aB:=(f.cell (p:=(k,3)) t).trans x3;have al:=(f.cell (p:=(k,4)) t).trans x4;have az:=(f.cell (p:=(k,5)) t).trans x5;have ar:=(f.cell (p:=u) o).trans u0;have ai:=(f.cell (p:=(u,1)) o).trans u1;have ay:=(f.cell (p:=(u,2)) o).trans u2;have aj:=(f.cell (p:=(u,3)) o).trans u3;have ah:=(f.cell (p:=(u,4)) o).trans u4;have av:=(f.cell (p:=(u,5)) o).trans u5;have ax:=(f.cell (p:=(u,6)) o).trans u6;have ap:=(f.cell (p:=(u,7)) o).trans u7;have aH:k<s:=OE t f.size;have aE:u<s.heap.size:=OE o f.size)|(go_at_call 144;(with_reducible refine(yS (Z:=(λX=>T X\/X=e)) (X:=X) (q:=oa) (k:=on) (c:=oc) (U:=sa) (j:=sn) (i:=sc) (h:=c) (F:=⟨y,d⟩) (u:=(e.alloc (.cells #[Zi,Zs,Zs,Zl false] 233)).drew) MA.o UA.o aI.o h0 h1).mono ?_);rintro R s ⟨G,D,L,C,E,I,rfl,U2,E2⟩;have f:=Y (DA.t E2);have ag:=(f.cell (p:=(k,1)) t).trans x1;have ao:=(f.cell (p:=(k,2)) t).trans x2;have aB:=(f.cell (p:=(k,3)) t).trans x3;have al:=(f.cell (p:=(k,4)) t).trans x4;have az:=(f.cell (p:=(k,5)) t).trans x5;have ar:=(f.cell (p:=u) o).trans u0;have ai:=(f.cell (p:=(u,1)) o).trans u1;have ay:=(f.cell (p:=(u,2)) o).trans u2;have aj:=(f.cell (p:=(u,3)) o).trans u3;have ah:=(f.cell (p:=(u,4)) o).trans u4;have av:=(f.cell (p:=(u,5)) o).trans u5;have ax:=(f.cell (p:=(u,6)) o).trans u6;have ap:=(f.cell (p:=(u,7)) o).trans u7;have aH:k<s:=OE t f.size;have aE:u<s.heap.size:=OE o f.size;have X2:=Y (XA.later E2 XA.lt);have aK:s.cell? e=Zb 0:=X2.cell 0;have aJ:s.cell? (e,1)=Zs:=X2.cell 1;have aQ:s.cell? (e,2)=Zs:=X2.cell 2;have aO:s.cell? (e,3)=Zl false:=X2.cell 3;have zz:=X2.frozen))
 all_goals
  first
   |(obtain⟨z,Q⟩:=ZX (s.alloc (.cells #[X.num,(G,D,L),(C,E,I),Zl X.be] 233))
     obtain⟨O,ab⟩:=ZX s.heap.size
     have X3:H_ (Bx z O #[X.num,(G,D,L),(C,E,I),Zl X.be] 233):=(by rw[Q,ab];exact Bx.new s _ _);have F3:=beA Q;have D3:=Y (f.t F3);have U3:H_ (Buo T z G D L C E I (gV X ⟨y,d⟩).op (gV X ⟨y,d⟩).se):=U2.ext (Ex.below F3);have aN:e<=O:=by rw[ab];exact f.size
     rw[<-Q,<-ab])
   |(have⟨z,Q⟩:=ZX (((((s.setCell e (Zb X.num)).setCell (e,1) (G,D,L)).setCell (e,2) (C,E,I)).setCell (e,3) (Zl X.be)))
     have⟨O,ab⟩:=ZX e.heap.size
     have U3:H_ (s.grownBy z (some e)):=(by rw[Q];exact ak (ak (ak (ak (au _) _ _) _ _) _ _) _ _);have X3:H_ (Bx z O #[X.num,(G,D,L),(C,E,I),Zl X.be] 233):=(by rw[Q,ab];exact(((X2.set 0 _).set 1 _).set 2 _).set 3 _);have D3:=Y (aM f U3 (OJ _));have Z3:H_ (Ex (λX=>X=e) s z):=Ex.one U3;have U3:=Y (show Buo T z G D L C E I (gV X ⟨y,d⟩).op (gV X ⟨y,d⟩).se from(U2.ext (Z3.mono (λX _ M=>.inr M))).wd (λX _ hs=>.inl hs));have aN:e<=O:=by rw[ab];exact OJ _
     rw[<-Q,<-ab])
  clear x1 x2 x3 x4 x5 u0 u1 u2 u3 u4 u5 u6 u7 ag ao aB al az ar ai ay aj ah av ax ap;try clear aK aJ aQ aO zz
  have K:=Y (HX.later D3);obtain⟨t0,t1,t2,t3⟩:=Bx.four X3;have xz:=Bx.frozen K.bx;obtain⟨x0,x1,x2,x3,x4,x5,x6,x7,x8,x9,aG,aF,aC,aD⟩:=K.bx.cells;have aV:¬k=O:=by omega
  have aT:¬O=k:=by omega
  go_wp2;have XF:=Y (show PrX Z T (rL z k (Zb X.num) (G,D,L) (C,E,I) (Zl X.be)) k c W (gV X ⟨y,d⟩) p g G D L C E I m qa qn qc ha hn hc from by
   have hr:PrR T z c W (gV X ⟨y,d⟩) p g G D L C E I m qa qn qc ha hn hc:={K.r with bu:=U3,mp:=K.r.mp,num:=K.r.num}
   exact⟨(((Bx.set K.bx 2 _).set 3 _).set 4 _).set 5 _,hr.ext (Ex.one (jn z k)) (λX M=>by rw[M];exact K.sub _ K.aP) (λR=>NE.1 R.symm) (λR=>NE.2.1 R.symm),K.aP,K.ag,K.am,K.sub⟩)
  have EF:=Y (show Ex Z u (rL z k (Zb X.num) (G,D,L) (C,E,I) (Zl X.be)) from(Ex.below (D0.t D3)).trans ((Ex.one (jn z k)).mono (λX _ M=>by rw[M];exact K.aP)));have MF:=Y ((ad.later D3).eW (Ex.one (jn z k (V:=Zb X.num) (N:=(G,D,L)) (J:=(C,E,I)) (H:=Zl X.be))) XF.bx gF);exact bodyPost_ret (v:=.nilIface) (by simp[results,Tryz.results115,go_sem]) rfl ⟨rfl,Y ⟨MF.o,⟨g,G,D,L,C,E,I,m,_,_,_,_,_,_,XF.o⟩,EF.o⟩⟩
theorem BQ(p:Pf_)(hm:Mut T u)(hp:PrW Z T u k c W X p)(hb:aY X c=0)(h0:H_ (y<0\/(c:Int)<=y)):
 C_ prog 115 #[(k,0),y,d] u λaj s=>aj=Zv (Zf 1)/\H_ (OS u s):=by
 obtain⟨g,oa,on,oc,sa,sn,sc,m,qa,qn,qc,ha,hn,hc,ax⟩:=hp;obtain⟨e,ar⟩:=ZX (u.alloc (.cells d 65));have B0:=bxA ar;have D0:=beA ar;have aS:u<e.heap.size:=B0.lt;have R:=Y (ax.later D0);have ap:=Y (hm.later D0);have NE:=Y ax.ne;have aC:=Y hb;have aT:k<e:=Bx.lt R.bx;clear ax hm hb;go_enter func115,ntmps115;go_upto_region 1 with fail;rw[<-ar];obtain⟨x0,V,O,x3,x4,x5,x6,x7,x8,x9,aJ,aI,aK,aO⟩:=R.bx.cells;obtain⟨u0,u1,N,u3,u4,u5,Q,u7⟩:=Bx.bL B0;clear x0 x6 x7 x8 x9 aJ aI aK aO;have UB:H_ (Buo T e.drew oa on oc sa sn sc X.op X.se):=R.r.bu.ext (Ex.below (Below.refl _ _).drew);have UA:=Y (show Buo (λX=>T X\/X=e) (e.alloc (.cells #[Zi,Zs,Zs,Zl false] 233)).drew oa on oc sa sn sc X.op X.se from(R.r.bu.wd ((Wd.refl T e).add (OJ _))).ext (Ex.below (af).drew));have t:k<e:=(by assumption);have o:u<e.heap.size:=(by assumption);have aF:¬e=k:=by omega
 have aL:¬e=u.heap.size:=by omega
 have DA:=Y (show OS e (e.alloc (.cells #[Zi,Zs,Zs,Zl false] 233)).drew from(af).drew);have DB:=Y (show OS e e.drew from(Below.refl _ _).drew);have XA:H_ (Bx (e.alloc (.cells #[Zi,Zs,Zs,Zl false] 233)).drew e #[Zi,Zs,Zs,Zl false] 233):=Bx.dC e _ _;have aR:¬T e:=λhs=>by have:=ap.lt _ hs;omega
 have MA:=Y (show Mut (λX=>T X\/X=e) (e.alloc (.cells #[Zi,Zs,Zs,Zl false] 233)).drew from(ap.later DA).add XA (eA rfl));have MB:=Y (ap.later DB);have WA:=Y (show Wd T (λX=>T X\/X=e) e from(Wd.refl T e).add (OJ _));go_region_held3 (λs=>s.cell? (k,1)=Zb (c:Int)/\s.cell? (k,2)=Zb X.num/\s.cell? (k,3)=(oa,on,oc)/\s.cell? (k,4)=(sa,sn,sc)/\s.cell? (k,5)=Zl X.be/\s.cell? u=Za d.z0/\s.cell? (u,1)=Za d.z1/\s.cell? (u,2)=Za d.z2/\s.cell? (u,3)=Za d.z3/\s.cell? (u,4)=Za d.z4/\s.cell? (u,5)=Za d.z5/\s.cell? (u,6)=Za d.z6/\s.cell? (u,7)=Za d.z7)
  (first|((try simp only[an,aq t,aq o]);with_reducible exact⟨V,O,x3,x4,x5,u0,u1,N,u3,u4,u5,Q,u7⟩)|((try simp only[aq aE,aq aD,aw aF,aw aL]);with_reducible exact⟨ag,ad,al,ah,aA,am,ay,aB,az,ao,ai,ab,av⟩))
  (first|(go_at_call 144;(with_reducible refine(vi (Z:=T) (X:=X) (q:=oa) (k:=on) (c:=oc) (U:=sa) (j:=sn) (i:=sc) (h:=c) (F:=⟨y,d⟩) (u:=e.drew) MB.o UB.o aC.o h0.o).mono ?_);rintro aj r ⟨E,G,M,I,K,L,rfl,E2⟩;have f:=Y (DB.t E2);have ag:=(f.cell (p:=(k,1)) t).trans V;have ad:=(f.cell (p:=(k,2)) t).trans O;have al:=(f.cell (p:=(k,3)) t).trans x3;have ah:=(f.cell (p:=(k,4)) t).trans x4;have aA:=(f.cell (p:=(k,5)) t).trans x5;have am:=(f.cell (p:=u) o).trans u0;have ay:=(f.cell (p:=(u,1)) o).trans u1;have aB:=(f.cell (p:=(u,2)) o).trans N;have az:=(f.cell (p:=(u,3)) o).trans u3;have ao:=(f.cell (p:=(u,4)) o).trans u4;have ai:=(f.cell (p:=(u,5)) o).trans u5;have ab:=(f.cell (p:=(u,6)) o).trans Q;have av:=(f.cell (p:=(u,7)) o).trans u7;have aE:k<r:=OE t f.size;have aD:u<r.heap.size:=OE o f.size)|(go_at_call 144;(with_reducible refine(vi (Z:=λX=>T X\/X=e) (X:=X) (q:=oa) (k:=on) (c:=oc) (U:=sa) (j:=sn) (i:=sc) (h:=c) (F:=⟨y,d⟩) (u:=(e.alloc (.cells #[Zi,Zs,Zs,Zl false] 233)).drew) MA.o UA.o aC.o h0.o).mono ?_);rintro aj r ⟨E,G,M,I,K,L,rfl,E2⟩;have f:=Y (DA.t E2);have ag:=(f.cell (p:=(k,1)) t).trans V;have ad:=(f.cell (p:=(k,2)) t).trans O;have al:=(f.cell (p:=(k,3)) t).trans x3;have ah:=(f.cell (p:=(k,4)) t).trans x4;have aA:=(f.cell (p:=(k,5)) t).trans x5;have am:=(f.cell (p:=u) o).trans u0;have ay:=(f.cell (p:=(u,1)) o).trans u1;have aB:=(f.cell (p:=(u,2)) o).trans N;have az:=(f.cell (p:=(u,3)) o).trans u3;have ao:=(f.cell (p:=(u,4)) o).trans u4;have ai:=(f.cell (p:=(u,5)) o).trans u5;have ab:=(f.cell (p:=(u,6)) o).trans Q;have av:=(f.cell (p:=(u,7)) o).trans u7;have aE:k<r:=OE t f.size;have aD:u<r.heap.size:=OE o f.size;have D:=Y (XA.later E2 XA.lt);have aQ:r.cell? e=Zb 0:=D.cell 0;have aP:r.cell? (e,1)=Zs:=D.cell 1;have aH:r.cell? (e,2)=Zs:=D.cell 2;have aN:r.cell? (e,3)=Zl false:=D.cell 3;have zz:=D.frozen))
 all_goals
  first
   |(have⟨J,C⟩:=ZX (r.alloc (.cells #[Zi,(E,G,M),(I,K,L),Zl false] 233))
     have⟨H,z⟩:=ZX r.heap.size
     have X3:H_ (Bx J H #[Zi,(E,G,M),(I,K,L),Zl false] 233):=(by rw[C,z];exact Bx.new r _ _);have F3:=beA C;have D3:=Y (f.t F3);have aG:e<=H:=by rw[z];exact f.size
     rw[<-C,<-z])
   |(obtain⟨J,C⟩:=ZX (((((r.setCell e (Zb 0)).setCell (e,1) (E,G,M)).setCell (e,2) (I,K,L)).setCell (e,3) (Zl false)))
     obtain⟨H,z⟩:=ZX e.heap.size
     have U3:H_ (r.grownBy J (some e)):=(by rw[C];exact ak (ak (ak (ak (au _) _ _) _ _) _ _) _ _);have X3:H_ (Bx J H #[Zi,(E,G,M),(I,K,L),Zl false] 233):=(by rw[C,z];exact(((D.set 0 _).set 1 _).set 2 _).set 3 _);have D3:=Y (aM f U3 (OJ _));have Z3:H_ (Ex (λX=>X=e) r J):=Ex.one U3;have aG:e<=H:=by rw[z];exact OJ _
     rw[<-C,<-z])
  clear V O x3 x4 x5 u0 u1 N u3 u4 u5 Q u7 ag ad al ah aA am ay aB az ao ai ab av;try clear aQ aP aH aN zz
  obtain⟨t0,t1,t2,t3⟩:=Bx.four X3;go_wp2_with fail;exact bodyPost_ret (v:=.iface 70 (.int .i64 1)) (by simp[results,Tryz.results115,go_sem]) rfl ⟨rfl,Y (D0.o.trans (D3.o.mono D0.o.size))⟩
namespace Mx
theorem pV{i:Nat}:∀{c:List Pt} {l:List B8},(∀p∈c,0<=p.at_)->(∀p∈c,p.at_≠(i:Int))->(lay l c)[i]?=l[i]?
 |[],_,_,_=>rfl
 |q::c,l,h0,h=>by
  show(lay (ey l q) c)[i]?=_
  rw[pV (λp d=>h0 p (gt _ d)) (λp d=>h p (gt _ d))];unfold ey;have h1:=h q (li ..);have h2:=h0 q (li ..);rw[TC (by omega)]
theorem zq{n:Int}:∀{c:List Pt} {s:Int} {l:List B8},eh n s c->0<=s->n=(l.length:Int)->∀p∈c,(lay l c)[p.at_.toNat]?=p.d
 |[],_,_,_,_,_,p,d=>by simp at d
 |q::c,s,l,h,hs,hl,p,d=>by
  have h1:=h.1;have h2:=h.2.1;show(lay (ey l q) c)[p.at_.toNat]?=_
  rcases ro.1 d with rfl|d
  ·rw[pV (λr e=>by have:=ej h.2.2 r e;omega) (λr e=>by have:=ej h.2.2 r e;omega)]
   unfold ey;rw[UF (by omega)]
  ·exact zq h.2.2 (by omega) (by unfold ey;rw[t9];exact hl) p d
end Mx
theorem Fb(p:Pf_)(hp:PrW Z T u k c W X p)(hbl:W[p.ar]?=some M)(az:M.length=c)(hb:aY X c=0)(hx:(0<=y/\y<(c:Int)/\(lay M X.op)[y.toNat]?=some d)\/(¬(0<=y/\y<(c:Int))/\d=zB))(hE:V=if 0<=y/\y<(c:Int) then .nilIface else .iface 70 (.int .i64 1)):
 C_ prog 116 #[(k,0),y] u λal w'=>al=.returned (.tuple #[d,V])/\H_ (OS u w'):=by
 have⟨g,oa,on,oc,sa,sn,sc,m,qa,qn,qc,ha,hn,hc,aq⟩:=hp;have⟨W0,ap⟩:=ZX (u.alloc (.cells () 65));have B0:=bxA ap;have G:=beA ap;have HX:=Y (aq.later G);have HR:=Y (show bK c X.op=true from by
  have:=(cJ (cb hb).2.2).2.1;exact this)
 have aw:X.op.length=on:=aq.r.bu.op.1.1;have aO:on<=1000:=by have:=(ui hb).1;omega
 have aJ:=Y aw;have aF:=Y hbl;have aD:=Y az;have ag:=Y hx;have au:=Y hE;clear aq hb aw hbl az hx hE;have⟨x0,x1,x2,x3,x4,x5,x6,x7,x8,x9,ak,ai,am,ar⟩:=HX.bx.cells;clear x1 x2 x4 x5 x6 x7 x8 x9 ak ai am ar;go_enter func116,ntmps116;go_upto_region 1 with fail;rw[<-ap];go_wp2_with fail;clear x0 x3;go_loopw [14] (λad wr=>∃j:Nat,ad=.int .i64 (j:Int)/\j<=on/\H_ (OS W0 wr)/\H_ (∀z q,z<j->X.op[z]?=some q->q.at_≠y)) (λad _=>on-(intOf ad).toNat)
 case atStart=>exact⟨0,rfl,ol _,ce _ _,λz q N=>absurd N (by omega)⟩
 case round=>
  obtain⟨j,rfl,hk,t,hN⟩:=hrel;by_cases aK:j<on
  ·have aR:(j:Int)<on:=by omega
   have⟨bb,aN,e,ay,aL,ax,c0,c1,c2,c3,c4,c5,c6,c7,c8⟩:=(HX.r.bu.op.1.later t).at_ j aK;have aQ:=Y ay;subst ay;have HP:=Y ax;clear ax;have⟨h,af⟩:=ZX (wr.alloc (.cells #[e.at_,.int .u8 e.d.z0,.int .u8 e.d.z1,.int .u8 e.d.z2,.int .u8 e.d.z3,.int .u8 e.d.z4,.int .u8 e.d.z5,.int .u8 e.d.z6,.int .u8 e.d.z7] 123));have r:=bxA af;have B1:H_ (OS W0 h):=(by rw[af];exact t.alloc t.size _);go_upto_region 4 with fail;rw[<-af];clear c0 c1 c2 c3 c4 c5 c6 c7 c8;have y0:h.cell? wr=some (.int .i64 e.at_):=r.cell 0;have y1:h.cell? (wr,1)=some (.int .u8 e.d.z0):=r.cell 1;have y2:h.cell? (wr,2)=some (.int .u8 e.d.z1):=r.cell 2;have y3:h.cell? (wr,3)=some (.int .u8 e.d.z2):=r.cell 3;have y4:h.cell? (wr,4)=some (.int .u8 e.d.z3):=r.cell 4;have y5:h.cell? (wr,5)=some (.int .u8 e.d.z4):=r.cell 5;have y6:h.cell? (wr,6)=some (.int .u8 e.d.z5):=r.cell 6;have y7:h.cell? (wr,7)=some (.int .u8 e.d.z6):=r.cell 7;have y8:h.cell? (wr,8)=some (.int .u8 e.d.z7):=r.cell 8;by_cases H:e.at_=y
   ·have hd:(e.at_==y)=true:=by simpa using H
    have s:=Y (B0.later B1 B0.lt);have⟨r0,r1,r2,r3,r4,r5,r6,r7⟩:=Bx.bL s;have rz:=s.frozen;have aM:¬wr=u.heap.size:=by have h1:=t.size;have h2:=B0.lt;omega
    have aS:¬u=wr.heap.size:=by omega
    have ab:=Y H;clear H;have⟨o,f⟩:=ZX (aV h u 0 e.d);have R:H_ (OU o u e.d):=(by rw[f];exact fc s e.d);have BF:H_ (OS u o):=(by rw[f];exact bP (G.t B1) (OJ _) _ _);unfold aV at f;simp only[m9] at f;go_wp2_with fail;rw[<-f];have⟨Q,I,t2,U,O,K,L,J⟩:=Bx.bL R;have i:=ej (eM HR) e (OR HP);have aE:=zq (l:=M) (eM HR) (Ug 0) (by rw[aD]) e (OR HP);have C:V=.nilIface:=by rw[au,UY (by rw[<-ab];exact i)]
    have aG:d=e.d:=by
     rcases ag with ⟨h1,h2,F⟩|⟨h1,_⟩
     ·rw[<-ab,aE] at F;exact(OG F).symm
     ·exact absurd (by rw[<-ab];exact i) h1
    exact UM (v:=.tuple #[e.d,Zn]) (by simp[results,results116,go_sem,Q,I,t2,U,O,K,L,J]) rfl ⟨by rw[C,aG],BF⟩
   ·have hd:(e.at_==y)=false:=by simpa using H
    have ab:=Y H;clear H;go_wp2_with fail;go_roundw
    case rel=>exact⟨j+1,by go_num,by omega,B1,λz q N E=>by
     by_cases aI:z=j
     ·subst aI
      rw[HP] at E;cases E
      exact ab
     ·exact hN z q (by omega) E⟩
    case measure=>simp[intOf];omega
  ·obtain rfl:j=on:=by omega
   have XR:=Y (HX.later t);have⟨x0,x1,x2,x3,x4,x5,x6,x7,x8,x9,ak,ai,am,ar⟩:=XR.bx.cells;clear x1 x2 x3 x4 x5 x6 x7 x8 x9 ak ai am ar;have⟨av,an,ND⟩:=XR.r.nd;have HD:=Y ND;have aH:av=M:=by rw[aF] at an;exact(OG an).symm
   subst aH;have aB:=Y (show ∀q∈X.op,q.at_≠y from λq E=>by
    have⟨z,N⟩:=Tv E;exact hN z q (by rw[<-aJ];exact(OI.1 N).1) N)
   have s:=Y (B0.later t B0.lt);clear ND an hN;go_wp2_with fail;clear x0;by_cases i:0<=y/\y<(c:Int)
   ·obtain⟨ah,hi⟩:∃ah:Nat,y=(ah:Int):=⟨y.toNat,by omega⟩;subst hi;have aA:av[ah]?=some d:=by
     rcases ag with ⟨h1,h2,F⟩|⟨h1,_⟩
     ·rw[m6,pV (λq E=>(ej (eM HR) q E).1) aB] at F;exact F
     ·exact absurd i h1
    have C:V=.nilIface:=by rw[au,UY i]
    have aj:=Y C;clear i C;refine(Ky HD aA).mono ?_;rintro al w2 ⟨rfl,E2⟩;have D:=Y (s.later E2 s.lt);have⟨r0,r1,r2,r3,r4,r5,r6,r7⟩:=Bx.bL D;have rz:=D.frozen;have⟨o,f⟩:=ZX (aV w2 u 0 d);have R:H_ (OU o u d):=(by rw[f];exact fc D d);have BF:H_ (OS u o):=(by rw[f];exact bP (G.trans ((t.t E2).mono G.size)) (OJ _) _ _);unfold aV at f;simp only[m9] at f;clear aA;go_wp2_with fail;rw[<-f];have⟨Q,I,t2,U,O,K,L,J⟩:=Bx.bL R;exact UM (v:=.tuple #[d,Zn]) (by simp[results,results116,go_sem,Q,I,t2,U,O,K,L,J]) rfl ⟨by rw[aj],BF⟩
   ·have aC:d=zB:=by
     rcases ag with ⟨h1,h2,F⟩|⟨_,h2⟩
     ·exact absurd ⟨h1,h2⟩ i
     ·exact h2
    have C:V=Zf 1:=by rw[au,UX i]
    have aj:=Y C;subst aC;clear C;refine(Ip HD (t:=y) (by omega)).mono ?_;rintro al w2 ⟨rfl,E2⟩;have aP:=Y i;clear i;have D:=Y (s.later E2 s.lt);have⟨r0,r1,r2,r3,r4,r5,r6,r7⟩:=Bx.bL D;have rz:=D.frozen;have⟨o,f⟩:=ZX (aV w2 u 0 zB);have R:H_ (OU o u zB):=(by rw[f];exact fc D zB);have BF:H_ (OS u o):=(by rw[f];exact bP (G.trans ((t.t E2).mono G.size)) (OJ _) _ _);unfold aV at f;simp only[m9] at f;go_wp2_with fail;have ao:H_ (o=_):=f;unfold zB at ao;simp only at ao;rw[<-ao];have⟨Q,I,t2,U,O,K,L,J⟩:=Bx.bL R;exact UM (v:=.tuple #[zB,.iface 70 (.int .i64 1)]) (by simp[results,results116,go_sem,Q,I,t2,U,O,K,L,J]) rfl ⟨by rw[aj],BF⟩
