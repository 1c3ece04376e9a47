import Derived.Test.YtgklbhiamepfoaaGreatDoorZ28
set_option maxHeartbeats 16000000
set_option maxRecDepth 100000
namespace Go.Proofs.YtgklbhiamepfoaaGreatDoor
open Go renaming World->W_,Value->V_,Calls->C_,Addr->A_
open Go.RowKit renaming Hid->H_
open Go.Proofs.Tryz Mx
variable {n k m c j tH tM Vh:Nat}{Z:List (List B8)}{X Vd:Pf_}{v z:W_}{W:Bu}{V Ve:List Lt_}{U:Of_}{S P Q A T Vg:Nat→Prop}{l Va:List B8}{x y rl:Int}{R:Rc_}{u N M L K J I H G F E D C B t s r q p o i h f e d b a aN br bL cE fK dC ed em et ex eW fl gT iK jh jJ kN kO lW mk mO nk og oI en ql qB rt sd so sB tJ ve vJ dv vZ wp xE zi zy zA Ab Ar Er Gj Gq JE JF JL JU Kv KC LH LJ LQ Ma Mb Mn dw ME ee Nc Np ek NK NM NT NV Oa Ov:V_}{O tL Vb:Nat->Prop}{tK:B8}{PP U9 Vf:Option A_}{Us:List Pk}{UZ:List Int}{U1:TypeId}{U7:List Fr}{U8:Lt_}{Vc:Ending->W_->Prop}
section
open Go.RowKit Go.Shelf
variable {w:W_}
attribute [local go_sem] Oper.semAt_some
theorem mm6{nc bn bc:Nat}{W:W_}(HI:H_ (bB W w (n,Vh,nc) (x::y::Us.map dO)))(HB:H_ (ay W w (PP,bn,bc) (bV Us)))(HBY:H_ (∀x∈bV Us,by8 x))(HX:H_ (Bx W k #[(c,m+1,j)] 235))(HO:H_ (W.ownsRow tM 308 3 (c,m+1,j) (m+1) ((cQ Vh (m+1)).flatMap (gO n 0))))(HF:H_ (OS w W))(HM:H_ (m+1=(Vh+8)/9))(hCw:w<=tM)(hM:m<=1000)(HD:H_ (W.heap[tH]?=some (.deferred (some []))))(hDw:w<=tH):
 jk (Tryz.f215.body.getD .skip) (bodyPostM Fence.wide 6 Tryz.prog Tryz.f215 (λO w'=>∃la ln lc,O=.returned (.slice la ln lc)∧H_ (cH w.heap.size w' w.heap.size (.slice la ln lc) (Upd.msgs ⟨x,y,Us⟩))∧H_ (OS w w'))) 6 ⟨#[L,u,N,M,.slice PP bn bc,K,J,.pointer (some ⟨k,0,none⟩),I,H,G,F,E,D,C,B,t,s,r,q,p,o,i,h,f,e,d,b,a,aN,br,bL,cE,fK,dC,ed,em,et,ex,eW,fl,gT,iK,jh,jJ,kN,kO,lW,mk,mO,nk,og,oI,en,ql,qB,rt,sd,so,sB,tJ,ve,vJ,dv,vZ],[{target:=.collected tH,args:=#[]}]⟩ W:=by
 refine fh rfl ?_;intro v hK;have c0:=HX.cell 0;simp only[OB,Oz] at c0;have h1:(0:Int)<=(m:Int):=by omega
 go_wp2;refine Met.intro (fh rfl ?_);try clear hK v
 intro v hK;have HNN:=Y (show Vh=(x::y::Us.map dO).length by
  have⟨a7,c7,hv7,_⟩:=bB.ints HI;injection hv7)
 have hx:(cQ Vh (m+1))[m]?=some (iv Vh m):=by unfold cQ;rw[i8,T8 (by omega)];rfl
 have⟨a9,c9,hv9,_,hr9,_⟩:=aF HO;have⟨b9,o9,ha9,_,hc9⟩:=hr9.2.2 (by omega);have e9:a9=some ⟨c,0,none⟩:=by injection hv9 with P _ _;exact P.symm
 rw[e9] at ha9;simp only[Option.some.injEq,Addr.mk.injEq,US] at ha9;obtain⟨rfl,rfl⟩:=ha9;have r0:W.cell? (c,m*3)=Zb 0:=by
  have h9:=hc9 (m*3+0) _ ((dJ (gO n 0) (g:=3) (λ_=>rfl) _ m (j:=0) _ hx (by omega)).trans rfl);simpa using h9
 have r2:W.cell? (c,m*3+2)=Zs:=by
  have h9:=hc9 (m*3+2) _ ((dJ (gO n 0) (g:=3) (λ_=>rfl) _ m (j:=2) _ hx (by omega)).trans rfl);simpa using h9
 obtain⟨cur,hcur⟩:∃cur,H_ (Bx W c cur 308):=by
  rcases HO.2 with ⟨hv,_⟩|⟨g',cap',cur,hv,_,hh,_⟩
  ·cases hv
  ·simp only[Value.slice.injEq,Option.some.injEq,Addr.mk.injEq,US] at hv
   obtain⟨rfl,_⟩:=hv;exact⟨cur,Y hh⟩
 have rz:=hcur.frozen;clear hv9 hr9 hc9 e9 hx;have HGL:=Y (show k≠c from λO=>by
  have h1:=HX.o;have h2:=hcur.o;unfold Bx at h1 h2;rw[O,h2] at h1;simp at h1)
 have⟨W8,hW8⟩:=ZX ((W.setCell (c,m*3) (Zb 1)).setCell (c,m*3+2) (PP,bn,bc))
 have S1:=HO.stored (m*3) (Zb 1);have S2:=S1.1.stored (m*3+2) (PP,bn,bc);have O8:H_ (W8.ownsRow tM 308 3 (c,m+1,j) (m+1) _):=(by rw[hW8];exact S2.1);have G8:H_ (W.grownBy W8 (some c)):=(by rw[hW8];exact S1.2.trans S2.2);clear S1 S2;have hgC:=(World.ownsRow.lt HO c rfl).1;have X8:=Y (HX.grow G8 (λO=>HGL (OG O)));have NI:=Y (aU HI hcur (by decide));have NB:=Y (aU HB hcur (by decide));have I8:H_ (bB W8 w (n,Vh,nc) (x::y::Us.map dO)):=World.ownsRow.kept HI G8 (.inr NI);have B8_:H_ (ay W8 w (PP,bn,bc) (bV Us)):=World.ownsRow.kept HB G8 (.inr NB);have F8:=Y (aM HF G8 (by omega));have D8:=Y (show W8.heap[tH]?=some (.deferred (some [])) from(G8.block tH (by
  rcases Uk tH W with P|P
  ·exact P
  ·have h9:=HD.o
   rw[TQ P] at h9;cases h9) (λO=>by
  have h9:=HD.o;have h8:=hcur.o;unfold Bx at h8;rw[OG O,h8] at h9;simp at h9)).trans HD)
 go_wp2;rw[<-hW8];refine Met.intro (Cp (c':=.seq _ .ret) rfl ?_);try clear hK v
 clear c0 r0 r2 rz;have c0:=X8.cell 0;simp only[OB,Oz] at c0;go_wp2;have hgO:=grownBy_putObj' W8 tH (.deferred none);have hrO:∀A,some tH=some A->∃Q:Obj,W8.heap[A]?=Q/\Q.isCells=false:=λA O=>by cases O;exact⟨_,D8,rfl⟩
 have o9:=gG O8 hgO hrO;have i9:=gG I8 hgO hrO;have b9:=gG B8_ hgO hrO;have hbl:=F8.grown hgO F8.size (λz O=>by cases O;omega);refine⟨by simp,.inl ⟨_,_,rfl,run_takeDeferred D8,?_⟩⟩;generalize W8.putObj tH (.deferred none)=WG at*;have hln:(Upd.msgs ⟨x,y,Us⟩).length=m+1:=by
  rw[Upd.mO,HM];rw[HNN];simp
 have hI9:aD WG (some ⟨n,0,none⟩) Vh (x::y::Us.map dO):=by
  have⟨a7,c7,hv7,h7⟩:=bB.ints i9;injection hv7 with e1 e2 _
  rw[<-e1,<-e2] at h7;exact h7
 have⟨a6,c6,hv6,h6,hp6⟩:=ay.bl b9;injection hv6 with e1 e2 _
 subst e1;have hb9:bm WG PP bn (flat (bV Us)):=by
  rw[<-e2] at h6;exact h6.Gq HBY
 have hbc:bn<=bc:=by
  have⟨a5,c5,hv5,hc5,_⟩:=aF HB;injection hv5 with _ e5 e6
  omega
 refine⟨(c,m+1,j),by simp[results,results215,go_sem],some ⟨c,0,none⟩,m+1,j,rfl,⟨(((cQ Vh (m+1)).flatMap (gO n 0)).set (m*3) (Zb 1)).set (m*3+2) (PP,bn,bc),?_,?_⟩,Y hbl⟩
 ·rw[hln]
  exact World.ownsRow.mono o9 (by omega)
 ·have h5:=Hl (W:=WG) (u:=⟨x,y,Us⟩) (b:=n) (nn:=Vh) (bn:=bn) (bc:=bc) (g:=c) (B:=w) (N:=m+1) (ba:=PP) hI9 hb9 e2 hbc (World.ownsRow.lt HI n rfl).1 (λO=>NI (by rw[O];rfl)) (λ_ l hp=>⟨λO=>NB (by rw[hp];exact O.symm),hp6 l hp⟩) HM
  exact h5
theorem mm4(HI:H_ (bB v w.heap.size (.slice PP k m) (x::y::Us.map dO)))(HB:H_ (ay v w.heap.size (.slice U9 c j) (bV Us)))(az:H_ (∀O∈bV Us,by8 O))(X:H_ (OS w v))(am:k=n+2)(aG:n≤900):
 jk (Tryz.f215.body.getD .skip) (bodyPostM Fence.wide 6 Tryz.prog Tryz.f215 (λZ w'=>∃la ln lc,Z=.returned (.slice la ln lc)∧H_ (cH w.heap.size w' w.heap.size (.slice la ln lc) (Upd.msgs ⟨x,y,Us⟩))∧H_ (OS w w'))) 4 ⟨#[N,.pointer (some ⟨w.heap.size,0,none⟩),.slice none 0 0,.slice PP k m,.slice U9 c j,M,L,u,K,J,I,H,G,F,E,D,C,B,t,s,r,q,p,o,i,h,f,e,d,b,a,aN,br,bL,cE,fK,dC,ed,em,et,ex,eW,fl,gT,iK,jh,jJ,kN,kO,lW,mk,mO,nk,og,oI,en,ql,qB,rt,sd,so,sB,tJ,ve,vJ],[]⟩ v:=by
 obtain⟨b,aj⟩:∃b:Nat,PP=some ⟨b,0,none⟩:=by
  rcases HI.o.2 with ⟨_,A⟩|⟨g',ai,aD,hv,_⟩
  ·simp at A
  ·injection hv with A _ _
   exact⟨g',A⟩
 obtain⟨o,S⟩:∃o:Nat,H_ (o=0):=⟨_,rfl⟩
 rw[←S.o] at aj;subst aj;have ar:k≤m:=bB.cap HI.o;have aF:=Y am;have aB:k≤1000:=by omega
 have aO:2≤k:=by omega
 clear am;refine fh rfl ?_;intro ae U;obtain⟨l,V⟩:∃l:W_,H_ (l=v.alloc (.cells #[.slice none 0 0] 235)):=⟨_,rfl⟩
 go_wp2_with fail;rw[←V.o];refine Met.intro (fh rfl ?_);try clear U ae
 intro ae U;go_wp2_with fail;refine(callsIn_wide.1 (yp (n:=5) (a:=some ⟨b,o,none⟩) (g:=k) (k:=m) (w:=l))).mono ?_;rintro Z w2 ⟨rfl,rfl⟩;go_wp2_with fail;obtain⟨z,R⟩:∃z:W_,H_ (z=(l.alloc (.cells #[.slice (some ⟨b,o,none⟩) k m] 224)).alloc (.cells #[.int .i64 9] 3)):=⟨_,rfl⟩
 have aJ:v.heap.size<l.heap.size:=by rw[V.o];simp
 have aE:l.heap.size+1<z.heap.size:=by rw[R.o];simp
 have X0:=Y (show Bx z v.heap.size #[.slice none 0 0] 235 by rw[R.o,V.o];exact((Bx.new v _ _).alloc _).alloc _);have X1:=Y (show Bx z l.heap.size #[.slice (some ⟨b,o,none⟩) k m] 224 by rw[R.o];exact(Bx.new l _ _).alloc _);have X2:=Y (show Bx z (l.heap.size+1) #[.int .i64 9] 3 by
  rw[R.o];have A:=Bx.new (l.alloc (.cells #[.slice (some ⟨b,o,none⟩) k m] 224)) #[.int .i64 9] 3;rw[dl] at A;exact A)
 have B0:=Y (show OS v z by rw[R.o,V.o];exact((af).alloc (by simp) _).alloc (by simp;omega) _);rw[←R.o];have ap:v.heap.size+1≤z.heap.size:=by omega
 refine wpIn_wide.1 (Fu rfl aB ar (by omega) (by omega) ap (X1.o.cell 0) (X2.o.cell 0) ⟨.slice none 0 0,X0.o,t8 _ _ _ _,B0.o,OJ _⟩ ?assign ?body ?done);case assign=>
  intro lp pre O W ae hi U;simp only[sp,Do,Eq];gi_wp2
  exact U _ _ (KeepsFrom.refl _ _) ⟨ce _ _,rfl,rfl⟩ hi (by unfold NAx;simp only[sp,Do,Eq])
 case body=>
  rintro lp pre O a' W ⟨T,P,S,Q,bs⟩ rfl aM;have ah:=Y P;have HO:=Y S;have aw:=Y Q;have al:=Y bs;have c0:=P.cell 0;have aC:v.heap.size<W.heap.size:=P.lt;have aI:pre.length≤1000:=by omega
  clear P S Q bs;simp only[sp,Do,Eq] at c0 ⊢;gi_wp2_with (refine nG rfl (t:=.tmp 47) (x:=.tmp 50) rfl (k:=z.heap.size) (n:=pre.length) (d:=pre.flatMap (gO b o)) ?zz1 (c0:=.int .i64 0) (c1:=.slice (some ⟨b,o+O.s,none⟩) O.q O.q) (c2:=.slice none 0 0) ?zz2 rfl ?zz3 ?zz4 ?_);case zz1=>exact HO.o
  case zz2=>intro aK hy;simp at hy;rcases hy with rfl|rfl|rfl<;>rfl
  case zz3=>omega
  case zz4=>exact al.o
  intro v' W4 ag an;have⟨g4,aH,ak,_⟩:=ag.form (by omega);obtain⟨N4,ax⟩:∃N4:Nat,H_ (N4=pre.length+1):=⟨_,rfl⟩
  rw[←ax.o] at ak;subst ak;have av:=Y ag;have ao:=Y (show W.grownBy W4 T.ownBlock from an);have aq:=Y (show Bx W4 v.heap.size #[T] 235 from(ao.o.block _ aC (λZ=>by have:=(World.ownsRow.lt HO.o _ Z.symm).1;omega)).trans ah.o);have c4:W4.cell? ⟨v.heap.size,0,none⟩=some T:=aq.o.cell 0;have z4:=aq.o.frozen;clear ag an;gi_wp2_with fail;exact A5 ap ⟨by omega,by omega⟩ ⟨by omega,by omega⟩ ah.o HO.o aw.o al.o av.o ao.o
 case done=>
  intro aL W hD hi au;have aA:=S.o;subst aA;have⟨T,P,ad,Q,bs⟩:=hi;obtain⟨ab,hM⟩:∃ab:Nat,H_ (ab+1=(k+8)/9):=⟨(k+8)/9-1,Y (by omega)⟩
  rw[kP,←hM.o] at ad;obtain⟨g,cap,hv⟩:∃g cap,T=.slice (some ⟨g,0,none⟩) (ab+1) cap:=by
   rcases ad.2 with ⟨_,A⟩|⟨g',ai,aD,hv,_⟩
   ·simp at A
   ·exact⟨g',ai,hv⟩
  subst hv;refine U _ _ (Met.intro (mm6 (W:=W) (Y (aW HI.o Q)) (Y (aW HB.o Q)) az (Y P) (Y ad) (Y (X.o.trans (Q.mono X.o.size))) hM (by have h9:=X.o.size;omega) (by have h9:=hM.o;omega) (Y au) (by have h9:=X.o.size;omega)))
end
section
open Go.RowKit Go.Shelf
theorem wG(i:QL v PP n Us)(r:∀q∈Us,QW q)(u:n<=900)(f:∀x∈bV Us,by8 x):
 C_ prog 215 #[.agg #[x,y,(PP,n,k)]] v λA h=>∃j l o,A=Zv (.slice j l o)/\H_ (cH v h v (.slice j l o) (Upd.msgs ⟨x,y,Us⟩))/\H_ (OS v h):=by
 have s:=Y i;have t:=Y r;have B:=Y f;clear i r f;have⟨a,d⟩:=ZX (v.alloc (.cells #[x,y,(PP,n,k)] 334));have⟨D,c⟩:=ZX (a.alloc (.cells #[x,y] 3));have e:=bxA d;have m:=beA d;have p:=beA c;have z:=Y (e.later p e.lt);have E:=Y (m.t p);have C:=Y (show bB D v (a,2,2) [x,y] by
  rw[c];exact⟨rfl,.inr ⟨a,2,_,rfl,m.size,UO a _,OJ _,by rw[aG];omega,rfl,rfl⟩⟩)
 have⟨H,G,F⟩:=e.three;refine(callsIn_wide (n:=6)).1 ?_;refine callsIn_of_wp_marks func215 rfl trivial ?_ rfl;simp only[ntmps215,EQ,fd,ut,Nat.reduceAdd,Nat.reduceSub,ww,AC,LE,fI,pp,i6];refine wpIn_wide.2 ?_;change jk (Tryz.f215.body.getD .skip) _ 0 _ v;refine fh rfl ?_;intro K b;go_wp2;rw[<-d];refine Met.intro (fh rfl ?_);try clear b K
 intro K b;go_wp2;rw[<-c];refine Met.intro (fh rfl ?_);try clear b K
 intro K b;go_wp2;exact Met.intro (mm3 s t (by omega) z C E (λV na nn nc ba bn bc {_ _ _ _ _ _ _ _ _ _ _ _ _ _ _ _ _ _ _ _ _ _ _ _ _ _ _ _ _ _ _ _ _ _ _ _ _ _ _ _ _ _ _ _ _ _ _ _ _ _ _ _ _ _ _ _ _ _ _ _ _} hI hB hnn hbn hF=>mm4 hI hB B hF hnn u))
end
section
open Go.RowKit
theorem MG{c1 c2:Nat}{e:List Int}(t:FL v PP n U7)(i:aD v U9 m UZ)(s:bm v Vf c e)(h0:iA ⟨x,y,U7⟩ ⟨rl,UZ,c,e⟩=0):
 C_ prog 216 #[.agg #[x,y,(PP,n,k)],.agg #[rl,(U9,m,c1),(Vf,c,c2)]] v λh f=>∃b a d,h=Zr #[.agg #[x,y,.slice b a d],Zn]/\H_ (FLA v f b a (U7++[⟨rl,UZ,c,e⟩])/\a<=d)/\H_ (OS v f):=by
 refine(AV (x:=x) (y:=y) n (m:=k) U7 (z:=rl) (c1:=c1) (c2:=c2) t i s).mono ?_;rintro h f ⟨A,rfl,h1,h2⟩;rw[h0];rcases h1 with ⟨o,_⟩|⟨_,b,a,d,rfl,l,r⟩
 ·exact absurd h0 o
 ·exact⟨b,a,d,rfl,⟨l,r⟩,h2⟩
theorem of6{hc:Nat}{S:Int}(HQ:H_ (QL v U9 j Us))(HW:H_ (∀q∈Us,QW q))(ax:j<=900)(az:H_ (∀x∈bV Us,by8 x))(aq:H_ (U7=Upd.msgs ⟨x,y,Us⟩))(aK:U7.length<=64)(HO:H_ (∀l X,U7[l]?=some X->iA ⟨rl,S,U7.take l⟩ X=0))(XU:H_ (Bx v k #[x,y,(U9,j,tH)] 334))(XS:H_ (Bx v m #[rl,S,(Vf,0,tM)] 237))(hQ:∀(ae:W_) (R:Option A_) (A P:Nat) {v1 v2 v7 v8 v9 Rn Ro Rr Rq RW RY Sa Sb Sc Se Sf Sh Rt Ru Rv Rs Rx Ry Rz RA RB RC RE RF RG RH RJ RM Si Sj Sk Sl Sm Sn So Sp Sq Sr Ss St Su Sv Sw Sx Sy Sz SA SB SC SD SE SF SG SH:V_},H_ (Bx ae m #[.int .i64 rl,.int .i64 S,.slice R A P] 237)→H_ (FLA v.heap.size ae R A U7∧A≤P)→H_ (v.grownBy ae (some m))→aA Tryz.f190 Vc 7 ⟨#[.pointer (some ⟨n,0,none⟩),v1,v2,.pointer (some ⟨k,0,none⟩),.nilIface,.slice PP c hc,.pointer (some ⟨m,0,none⟩),v7,v8,v9,Rn,Ro,Rr,Rq,RW,RY,Sa,Sb,Sc,Se,Sf,Sh,Rt,Ru,Rv,Rs,Rx,Ry,Rz,RA,RB,RC,RE,RF,RG,RH,RJ,RM,Si,Sj,Sk,Sl,Sm,Sn,So,Sp,Sq,Sr,Ss,St,Su,Sv,Sw,Sx,Sy,Sz,SA,SB,SC,SD,SE,SF,SG,SH],[]⟩ ae):
 aA Tryz.f190 Vc 6 ⟨#[.pointer (some ⟨n,0,none⟩),u,.nilIface,.pointer (some ⟨k,0,none⟩),.nilIface,.slice PP c hc,.pointer (some ⟨m,0,none⟩),N,M,L,K,J,I,H,G,F,E,D,C,B,t,s,r,q,p,o,i,h,f,e,d,b,a,aN,br,bL,cE,fK,dC,ed,em,et,ex,eW,fl,gT,iK,jh,jJ,kN,kO,lW,mk,mO,nk,og,oI,en,ql,qB,rt,sd,so,sB],[]⟩ v:=by
 refine aj rfl ?_;intro aL hK;have⟨x0,x1,x2⟩:=XU.three;go_wp2_with fail;refine(wG (x:=x) (y:=y) (k:=tH) HQ HW ax az).mono ?_;rintro aB w1 ⟨la,O,lc,rfl,hL,T⟩;rw[<-aq] at hL;have⟨a9,c9,an,_,am⟩:=hL.fla (OJ _);have HL:H_ (FLA v w1 la O U7):=(by injection an with Z e2 _;rw[Z,e2];exact am);have ao:=Y HL.1;have aJ:O<=64:=by have h9:=ao.o;omega
 clear an am hL x0 x1 x2;have ak:m<v:=XS.lt;have aE:=Y (XS.later T ak);have G1:=Y (show v.grownBy w1 (some m) from⟨T.os,T.tape,T.output,T.size,λl hk _=>T.block l hk⟩);go_upto_region 9 with fail;go_loopw [4,37] (λs4 al wr=>∃(l:Nat) (R:Option A_) (A P:Nat),l<=O/\s4=Zn/\al=Zb (l:Int)/\H_ (Bx wr m #[rl,S,(R,A,P)] 237)/\H_ (FLA v wr R A (U7.take l)/\A<=P)/\H_ (FLA v wr la O U7)/\H_ (v.grownBy wr (some m))) (λ_ al _=>O-(intOf al).toNat)
 case atStart=>exact⟨0,Vf,0,tM,ol _,rfl,rfl,aE,⟨⟨rfl,by rw[aG];omega,λay=>absurd ay (by omega)⟩,ol _⟩,HL,G1⟩
 case round=>
  obtain⟨l,R,A,P,hk,rfl,rfl,hX,hA,hM,hG⟩:=hrel;by_cases aF:l<O
  ·have aM:(l:Int)<(O:Int):=by omega
   have⟨aC,av,X,a1,n1,c1,a2,c2,aH,aI,hx,e0,Z,e2,hi,ai,_⟩:=hM.fl.at_ l aF;subst aH;have HX:=Y hx;have⟨kd,nm,nb,bs⟩:=X;dsimp only at e0 Z e2 hi ai;have HI:=Y hi;have HB:=Y ai;have aw:=Y (HO l _ hx);clear hi ai hx;have⟨W4,ah⟩:=ZX (wr.alloc (.cells #[kd,(a1,n1,c1),(a2,nb,c2)] 308));have X4:=bxA ah;have z:=beA ah;go_upto_region 11 with fail;rw[<-ah];clear e0 Z e2;have af:=Y (hX.later z hX.lt);have⟨s0,s1,s2⟩:=af.three;have⟨f0,f1,f2⟩:=X4.three;go_wp2_with fail;refine(MG (k:=P) (c1:=c1) (c2:=c2) (hA.1.fl.later z) (HI.later z) (HB.later z) aw).mono ?_;rintro aB w5 ⟨W,V,ab,rfl,h5,Q⟩;have ag:=Y (af.later Q af.lt);clear s0 s1 s2 f0 f1 f2;have⟨s0,s1,s2⟩:=ag.three;have sz:=ag.frozen;have G5:H_ (v.grownBy w5 (some m)):=hG.trans ⟨Q.os.trans z.os,Q.tape.trans z.tape,Q.output.trans z.output,OP z.size Q.size,λap hj _=>(Q.block ap (OE hj z.size)).trans (z.block ap hj)⟩;have ar:v<=W4.heap.size:=OP hG.size z.size;have⟨U,ad⟩:=ZX (cP w5 m (Zb rl) (Zb S) (W,V,ab));have G6:H_ (w5.grownBy U (some m)):=(by rw[ad];exact bI (au _) _ _ _);have X6:H_ (Bx U m #[rl,S,(W,V,ab)] 237):=(by rw[ad];exact ag.aN _ _ _);have A6:=Y (show FLA v U W V (U7.take (l+1))/\V<=ab from⟨by
    rw[up,HX];exact(h5.1.low ar).grown G6 ak,h5.2⟩)
   have M6:=Y (show FLA v U (some ⟨aC,av,none⟩) O U7 from((hM.later z).later Q).grown G6 ak);have G7:H_ (v.grownBy U (some m)):=G5.trans G6;unfold cP at ad;go_upto_region 12 with fail;rw[<-ad];clear s0 s1 s2 sz;go_wp2;go_roundw
   case rel=>exact⟨l+1,W,V,ab,by omega,rfl,by go_num,X6,A6,M6,G7⟩
   case measure=>simp[intOf];omega
  ·have aD:l=O:=by omega
   subst aD;have HT:H_ (U7.take l=U7):=OL (by have:=ao.o;omega);rw[HT] at hA;go_wp2;exact Met.intro (hQ wr R A P hX hA hG)
end
section
open Go.RowKit
theorem of7{w:W_}{al am:Nat}{aq:Option A_}{af ap ub V P hc un uc T A Q:Nat}{S ua R:Option A_}(y:H_ (PrX O tL v k n Z W X c PP j tH U9 tM Vh m Vf al am aq af ap))(HM:H_ (Mut tL v))(HF:H_ (Ex O w v))(XU:H_ (Bx v ub #[x,T,(ua,un,uc)] 334))(XS:H_ (Bx v V #[X.s,X.base,(R,A,Q)] 237))(HQ:H_ (FLF (dU tL) v R A U7/\A<=Q))(HH:H_ (BLo tL v S P l/\P<=hc)):
 aA Tryz.f190 (λz U=>z=.returned .nilIface∧H_ (PrD O tL w U k n Z W {X with queue:=U7,goal:=T,had:=l})) 7 ⟨#[.pointer (some ⟨k,0,none⟩),u,N,.pointer (some ⟨ub,0,none⟩),.nilIface,.slice S P hc,.pointer (some ⟨V,0,none⟩),M,L,K,J,I,H,G,F,E,D,C,B,t,s,r,q,p,o,i,h,f,e,d,b,a,aN,br,bL,cE,fK,dC,ed,em,et,ex,eW,fl,gT,iK,jh,jJ,kN,kO,lW,mk,mO,nk,og,oI,en,ql,qB,rt,sd,so,sB,tJ],[]⟩ v:=by
 refine aj rfl ?_;intro ao hK;have⟨x0,x1,x2,x3,x4,x5,x6,x7,x8,x9,ar,ah,av,ax⟩:=y.bx.cells;have xz:=Bx.frozen y.bx;have⟨s0,s1,s2⟩:=XS.three;have u:=XU.three.2.1;have ag:¬k=V:=λz=>by
  have h1:Bx v k _ 239:=y.bx;have h2:=XS.o;unfold Bx at h1 h2;rw[z,h2] at h1;simp at h1
 have ai:¬k=ub:=λz=>by
  have h1:Bx v k _ 239:=y.bx;have h2:=XU.o;unfold Bx at h1 h2;rw[z,h2] at h1;simp at h1
 clear x0 x1 x2 x3 x4 x5 x6 x7 ah;go_region_held3 (λU=>U.cell? V=Zb (X.s:Int)/\U.cell? (V,1)=Zb (X.base:Int)/\U.cell? (V,2)=(R,A,Q)/\U.cell? (ub,1)=Zb (T:Int))
  (first|((try simp only[an,aw ag,aw ai]);with_reducible exact⟨s0,s1,s2,u⟩))
  (fail)
 all_goals
  have⟨W3,ab⟩:=ZX ((((((v.setCell (k,8) (Zb (X.s:Int))).setCell (k,9) (Zb (X.base:Int))).setCell (k,10) (R,A,Q)).setCell (k,13) (S,P,hc)).setCell (k,12) (Zb (T:Int))).drew);rw[<-ab];have G3:H_ (v.grownBy W3 (some k)):=(by rw[ab];exact cZ (ak (ak (ak (ak (ak (au _) _ _) _ _) _ _) _ _) _ _));have Z3:=Y (Ex.one G3);have X3:=Y (show Pbx W3 k c n W.num PP j tH U9 tM Vh W.be m (X.safe:Int) (X.s:Int) (X.base:Int) R A Q X.known (T:Int) S P hc by
   rw[ab];have h9:=((((Bx.set y.bx 8 (Zb (X.s:Int))).set 9 (Zb (X.base:Int))).set 10 (R,A,Q)).set 13 (S,P,hc)).set 12 (Zb (T:Int));exact Bx.later h9 (ce _ _).drew (Bx.lt h9))
  have M3:=Y (HM.eW Z3 X3 gF);have ad:∀W,W=k->tL W:=λW z=>by rw[z];exact y.sub _ y.aP
  have ZS:H_ (Ex tL v W3):=Z3.mono (λW _ hb=>ad W hb);have R3:=Y (show PrR tL W3 n Z W {X with queue:=U7,goal:=T,had:=l} c PP j tH U9 tM Vh m R A Q S P hc from by
   have hr:=y.r.ext Z3 ad (λz=>y.ne.1 z.symm) (λz=>y.ne.2.1 z.symm);exact⟨hr.nd,hr.bu,hr.mp,HQ.1.sB ZS,HQ.2,HH.1.ext ZS,HH.2,hr.num⟩)
  have PW:=Y (show PrW O tL W3 k n Z W {X with queue:=U7,goal:=T,had:=l} from⟨c,PP,j,tH,U9,tM,Vh,m,R,A,Q,S,P,hc,X3,R3,y.aP,y.ag,y.am,y.sub⟩);have E3:H_ (Ex O w W3):=HF.chain Z3 (λW _ z=>by rw[z];exact y.aP);clear s0 s1 s2 u xz;go_wp2;refine Met.intro (bg (c:=.seq _ .ret) rfl ?_);try clear hK ao
  go_wp2;exact UM (v:=.nilIface) (by simp[results,Tryz.results190,go_sem]) rfl ⟨rfl,Y ⟨M3.o,PW.o,E3.o⟩⟩
end
section
open Go.RowKit
theorem rK(hm:Mut tL v)(hp:PrW O tL v k n Z W X)(hq:X.queue=[])(ax:cF X.had=0)(hu:C_ prog 213 #[(k,0)] v λe c=>∃P z y,e=Zr #[.agg #[x,m,.slice P z y],Zn]/\H_ (dA c v (.slice P z y) Us)/\H_ (OS v c))(hw:∀q∈Us,QW q)(aD:Us.length<=32)(aB:∀x∈bV Us,by8 x)(ad:U7=Upd.msgs ⟨x,(m:Int),Us⟩)(ho:∀ai ab,U7[ai]?=some ab->iA ⟨(X.s:Int),(X.base:Int),U7.take ai⟩ ab=0):
 C_ prog 190 #[(k,0)] v λe c=>e=Zv Zn/\H_ (PrD O tL v c k n Z W {X with queue:=U7,goal:=m,had:=bY X.had Us}):=by
 have⟨g,oa,on,oc,sa,sn,sc,aS,aI,aG,aJ,al,R,aR,ag⟩:=hp;have aE:aG=0:=by have b:=ag.r.qu.1;rw[hq] at b;exact b.symm
 subst aE;have t:=Y ag;have D:=Y hm;have HU:=Y hu;have aC:=Y ax;have HW:=Y hw;have aP:=Y aB;have am:=Y ad;have HO:=Y ho;have av:U7.length<=64:=by
  have b:=Upd.og (u:=⟨x,(m:Int),Us⟩) aD;rw[<-ad] at b;omega
 go_enter func190,ntmps190;change aA Tryz.f190 _ 0 _ v;refine aj rfl ?_;intro K h;go_wp2_with fail;refine Met.intro (aj rfl ?_);intro K h;go_wp2_with fail;refine HU.mono ?_;rintro e F ⟨E,j,I,rfl,hQ,D1⟩;have ah:=Y (show QL F E j Us by
  have⟨a9,c9,ao,b⟩:=hQ.ql;injection ao with e1 e2 _
  rw[e1,e2];exact b)
 have aH:j<=900:=by have b:=ah.1;omega
 have⟨d,C⟩:=ZX (F.alloc (.cells #[x,m,(E,j,I)] 334));have o:=bxA C;have D2:=beA C;have G:=Y (D1.t D2);have T:=Y (ah.later D2);have⟨B,S⟩:=ZX F;go_wp2_with fail;rw[<-C,<-S];rw[<-S] at o;refine Met.intro (aj rfl ?_);intro K h;go_wp2_with fail;refine Met.intro (aj rfl ?_);intro K h;have s:=Y (t.later G);have⟨x0,x1,x2,x3,x4,x5,x6,x7,x8,x9,au,ar,aw,J⟩:=s.bx.cells;have Q:=o.three.2.2;have⟨HN,aN⟩:=ZX ((bY X.had Us).length);have ap:k<d:=Bx.lt s.bx;have ak:B<d.heap.size:=o.lt;have r:=Y (show OS d d.drew from(ce _ _).drew);have aO:H_ (BL d.drew al R X.had):=s.r.hd.1.later r;have aq:=Y (T.later r);have az:=Y s.r.hc;go_region_held3 (λc=>c.cell? (k,13)=(al,R,aR)/\c.cell? (B,2)=(E,j,I))
  (first|((try simp only[an]);first|with_reducible exact⟨J,Q⟩|with_reducible exact⟨aL,aQ⟩))
  (first|(go_at_call 214;(with_reducible refine(zj I aO.o aq.o az.o aC.o aN.o).mono ?_);rintro e w3 ⟨ha,hc,rfl,H3,E3⟩;have f:=Y (r.t E3);have aL:=(f.cell (p:=(k,13)) ap).trans J;have aQ:=(f.cell (p:=(B,2)) ak).trans Q))
 all_goals
  have A:=Y (G.t f);have X3:=Y (t.later A);have L:=Y (o.later f ak);have H:=Y (ay.blo H3 D (by have b:=G.size;have h8:=r.size;omega));have aF:=Y (T.later f);go_wp2_with fail;refine Met.intro (aj rfl ?_);intro K h;go_wp2_with fail;refine Met.intro (aj rfl ?_);intro K h;have⟨x0,x1,x2,x3,x4,x5,x6,x7,x8,x9,au,ar,aw,J⟩:=X3.bx.cells;have⟨W4,M⟩:=ZX (w3.alloc (.cells #[X.s,X.base,(aI,0,aJ)] 237));have i:=beA M;have aK:=bxA M;have af:=Y (L.later i L.lt);have p:=Y (A.t i);go_wp2_with fail;rw[<-M];have N:=A.size;exact Met.intro (of6 (aF.later i) HW aH aP am av HO af aK (λV P z y {_ _ _ _ _ _ _ _ _ _ _ _ _ _ _ _ _ _ _ _ _ _ _ _ _ _ _ _ _ _ _ _ _ _ _ _ _ _ _ _ _ _ _ _ _ _ _ _ _ _ _ _ _ _ _ _ _ _ _} XS5 Q5 G5=>of7 (w:=v) (t.later (aM p G5 N)) (D.later (aM p G5 N)) (Ex.below (aM p G5 N)) (af.grow G5 (λe=>by have h8:=L.lt;have b:=OG e;omega)) XS5 (⟨FLF.Er Q5.1 (λW _ hb hs=>by have h8:=D.lt _ hs;have b:=p.size;omega),Q5.2⟩)
   (⟨⟨((H.1.wd ((Wd.refl tL w3).add (OJ _))).ext ((Ex.below i).trans ((Ex.one G5).mono (λW _ hb=>.inr hb)))).1,H.1.2⟩,H.2⟩)))
end
section
open Go.RowKit
theorem cg.low{b:List (List Int)}(h:cg n v m u b)(j:k<=n)(t:k<=m):cg k v k u b:=by
 have⟨q,h1,h2⟩:=h;refine⟨q,World.ownsRow.mono h1 t,λi r e=>?_⟩;have⟨f,d,s,o,x,l,c⟩:=h2 i r e;exact⟨f,d,s,o,x,l,λh0 p a=>⟨(c h0 p a).1,OP j (c h0 p a).2⟩⟩
theorem ps3(A:H_ (PrW O tL z k n Z W X))(T:H_ (Mut tL z))(HF:H_ (Ex O v z))(Q:v<=z.heap.size)(HE:H_ (eU ⟨(X.s:Int),(X.base:Int),X.queue⟩=0)):
 aA Tryz.f149 (λR x=>∃j,R=Zr #[j,Zn]/\H_ (cg v x v j (fT ⟨(X.s:Int),(X.base:Int),X.queue⟩))/\H_ (PrD O tL v x k n Z W X)) 3 ⟨#[(k,0),u,N,M,L,K,J,I,H,G,F,E,D,C,B,t,s,r,q,p,o,i,h,f,e,d,b,a,aN,br,bL,cE,fK,dC,ed,em,et,ex,eW,fl,gT,iK,jh,jJ,kN,kO,lW,mk,mO,nk,og,oI,en,ql,qB],[]⟩ z:=by
 refine bg (c:=.seq _ .ret) rfl ?_;have⟨g,oa,on,oc,sa,sn,sc,ag,qa,qn,qc,ha,hn,hc,m⟩:=A.o;have P:=Y m;have⟨V,x1,x2,x3,x4,x5,x6,x7,x8,x9,ad,S,ab,af⟩:=m.bx.cells;clear m V x1 x2 x3 x4 x5 x6 x7 S ab af;go_wp2_with fail;refine(Ec (y:=(X.s:Int)) (z:=(X.base:Int)) P.r.qu.fl P.r.qc).mono ?_;rintro R w2 ⟨j,rfl,h2,l⟩;rw[HE];have U:H_ (cg v w2 v j (fT ⟨(X.s:Int),(X.base:Int),X.queue⟩)):=h2.low Q Q;clear x8 x9 ad;go_wp2_with fail;exact UM (by simp[results,results149,go_sem,aJ]) rfl ⟨j,rfl,U,⟨T.later l,A.later l,HF.trans (Ex.below l)⟩⟩
theorem Fe(y:PrW O tL v k n Z W X)(t:X.known=false)(p:may 2 [(X.s:Int)] 0=0):
 C_ prog 149 #[(k,0)] v λm i=>∃f,m=Zr #[f,Zn]/\H_ (cg v i v f [bF 2 [(X.s:Int)] 0 []])/\H_ (OS v i):=by
 have⟨g,oa,on,oc,sa,sn,sc,ab,qa,qn,qc,ha,hn,hc,l⟩:=y;have⟨I,F,z,P,U,R,Q,C,N,T,E,j,H,K⟩:=l.bx.cells;rw[t] at j;have A:=Y p;clear l I F z P U R Q C T E H K t p;have⟨J,d⟩:=ZX (v.alloc (.cells #[X.s] 3));have b:=beA d;have M:H_ (aD J (some ⟨v,0,none⟩) 1 [(X.s:Int)]):=(by rw[d];exact kB v [(X.s:Int)] rfl (by simp));go_enter func149,ntmps149;go_wp2_with fail;rw[<-d];refine(kD 1 M A).mono ?_;rintro m h ⟨f,rfl,h2,c⟩;have⟨q,c2,r,s,e,u⟩:=aF h2;have⟨L,o⟩:=ZX ((bF 2 [(X.s:Int)] 0 []).length);rw[<-o] at r s e;subst r;have G:=Y (cg.one (B:=v) (base:=v) (OP b.size c.size) (show BR h q L (bF 2 [(X.s:Int)] 0 []) from⟨o.symm,e⟩) s (λ_ V D=>OP b.size (u V D)));have S:=Y (show OS v (h.alloc (.cells #[(q,L,c2)] 26)) from(b.t c).alloc (OP b.size c.size) _);clear e u N j;go_wp2_with fail;exact UM (by simp[results,results149,go_sem]) rfl ⟨_,rfl,G,S⟩
theorem Ff(h:Mut tL v)(q:PrW O tL v k n Z W X)(o:X.known=true)(j:X.queue≠[])(m:eU ⟨(X.s:Int),(X.base:Int),X.queue⟩=0):
 C_ prog 149 #[(k,0)] v λe i=>∃l,e=Zr #[l,Zn]/\H_ (cg v i v l (fT ⟨(X.s:Int),(X.base:Int),X.queue⟩))/\H_ (PrD O tL v i k n Z W X):=by
 have⟨g,Q,F,C,y,sn,H,x,U,b,z,D,p,hc,a⟩:=q;have s:=Y (show PrW O tL v k n Z W X from⟨g,Q,F,C,y,sn,H,x,U,b,z,D,p,hc,a⟩);have HM:=Y h;have f:=a.r.qu.1;have⟨N,J⟩:=ZX X.ar;have S:=Y (show W.num=(N:Int) by rw[a.r.num,J]);have⟨E,A,r,M,V,R,P,u,L,T,af,t,ah,I⟩:=a.bx.cells;rw[o] at t;rw[S] at r;have B:=Y (h.later (ce _ v).drew);clear a E A M V R P u L T I o h;have G:=Y m;have ab:¬b=0:=λe=>by rw[e] at f;exact j (kw f)
 have ad:((b:Int)==0)=false:=by simp;omega
 have ag:(b==0)=false:=by simp;omega
 clear f j m;go_enter func149,ntmps149;change aA Tryz.f149 _ 0 _ v;refine aj rfl ?_;intro K c;go_wp2_with fail;refine Met.intro (aj rfl ?_);try clear c K
 intro K c;go_wp2_with fail;refine Met.intro (aj rfl ?_);try clear c K
 intro K c;go_upto_region 6 with fail;go_region;all_goals
  have d:=Y (show OS v v.drew from(ce _ _).drew);go_wp2_with fail;exact Met.intro (ps3 (s.later d) B (Ex.below d) d.size G)
theorem Fc(e:Mut tL v)(u:PrW O tL v k n Z W X)(r:X.known=true)(t:X.queue=[])(R:X.ar<=X.goal)(l:eU ⟨(X.s:Int),(X.base:Int),X.queue⟩=0):
 C_ prog 149 #[(k,0)] v λq a=>∃j,q=Zr #[j,Zn]/\H_ (cg v a v j (fT ⟨(X.s:Int),(X.base:Int),X.queue⟩))/\H_ (PrD O tL v a k n Z W X):=by
 have⟨g,oa,S,J,G,sn,z,A,s,m,o,x,Q,hc,b⟩:=u;have P:=Y (show PrW O tL v k n Z W X from⟨g,oa,S,J,G,sn,z,A,s,m,o,x,Q,hc,b⟩);have HM:=Y e;have h:=b.r.qu.1;have⟨N,p⟩:=ZX X.ar;have M:=Y (show W.num=(N:Int) by rw[b.r.num,p]);have⟨D,V,d,L,H,x5,x6,T,x8,U,F,B,E,I⟩:=b.bx.cells;rw[r] at B;rw[M] at d;have MD:=Y (e.later (ce _ v).drew);clear b D V L H x5 x6 T x8 U I r e;have HE:=Y l;have C:m=0:=by rw[t] at h;exact h.symm
 have ab:¬(X.goal:Int)<(N:Int):=by rw[p];omega
 clear h t l R;subst C;go_enter func149,ntmps149;change aA Tryz.f149 _ 0 _ v;refine aj rfl ?_;intro K c;go_wp2_with fail;refine Met.intro (aj rfl ?_);try clear c K
 intro K c;go_wp2_with fail;refine Met.intro (aj rfl ?_);try clear c K
 intro K c;go_upto_region 6 with fail;go_region_held3 (λa=>a.cell? (k,10)=(s,0,o)/\a.cell? (k,12)=Zb (X.goal:Int)/\a.cell? (k,2)=Zb (N:Int))
  (first|((try simp only[an]);with_reducible exact⟨F,E,d⟩))
  (first|(go_at_call 128;(with_reducible refine(fD k (y:=(N:Int)) (by first|exact d|(simp only[an];exact d))).mono ?_);rintro q wz ⟨rfl,i⟩;obtain rfl:=i.symm;clear i))
 all_goals
  have f:=Y (show OS v v.drew from(ce _ _).drew);go_wp2_with fail;exact Met.intro (ps3 (P.later f) MD (Ex.below f) f.size HE)
theorem BM(h:Mut tL v)(z:PrW O tL v k n Z W X)(t:X.known=true)(x:X.queue=[])(T:X.goal<X.ar)(s:∀a:W_,OS v a->C_ prog 190 #[(k,0)] a λe ab=>e=Zv Zn/\H_ (PrD O tL a ab k n Z W Vd))(o:eU ⟨(Vd.s:Int),(Vd.base:Int),Vd.queue⟩=0):
 C_ prog 149 #[(k,0)] v λe a=>∃m,e=Zr #[m,Zn]/\H_ (cg v a v m (fT ⟨(Vd.s:Int),(Vd.base:Int),Vd.queue⟩))/\H_ (PrD O tL v a k n Z W Vd):=by
 have⟨g,oa,V,P,I,sn,B,C,u,p,q,A,S,hc,b⟩:=z;have HP:=Y (show PrW O tL v k n Z W X from⟨g,oa,V,P,I,sn,B,C,u,p,q,A,S,hc,b⟩);have HM:=Y h;have j:=b.r.qu.1;have⟨N,r⟩:=ZX X.ar;have R:=Y (show W.num=(N:Int) by rw[b.r.num,r]);have⟨F,x1,f,Q,J,x5,x6,x7,x8,x9,H,D,G,L⟩:=b.bx.cells;rw[t] at D;rw[R] at f;have MD:=Y (h.later (ce _ v).drew);clear b F x1 Q J x5 x6 x7 x8 x9 L t h;have HE:=Y o;have HO:=Y s;have E:p=0:=by rw[x] at j;exact j.symm
 have ad:(X.goal:Int)<(N:Int):=by rw[r];omega
 clear j x o T s;subst E;go_enter func149,ntmps149;change aA Tryz.f149 _ 0 _ v;refine aj rfl ?_;intro K c;go_wp2;refine Met.intro (aj rfl ?_);try clear c K
 intro K c;go_wp2;refine Met.intro (aj rfl ?_);try clear c K
 intro K c;go_upto_region 6 with fail;go_region_held3 (λa=>a.cell? (k,10)=(u,0,q)/\a.cell? (k,12)=Zb (X.goal:Int)/\a.cell? (k,2)=Zb (N:Int))
  (first|((try simp only[an]);with_reducible exact⟨H,G,f⟩))
  (first|(go_at_call 128;(with_reducible refine(fD k (y:=(N:Int)) (by first|exact f|(simp only[an];exact f))).mono ?_);rintro e wz ⟨rfl,l⟩;obtain rfl:=l.symm;clear l))
 all_goals
  have i:=Y (show OS v v.drew from(ce _ _).drew);go_wp2_with fail;refine(HO v.drew i).mono ?_;rintro e M ⟨rfl,d⟩;have U:v<=M.heap.size:=OP i.size d.ext.size;go_wp2;exact Met.intro (ps3 (Y d.pr) (Y d.mu) ((Ex.below i).trans d.ext) U HE)
end
section
open Go.RowKit
def JA(l:List Lt_)(bl:List (List Int)):Prop:=l.length=bl.length/\∀(i:Nat)(lt:Lt_),l[i]?=some lt->∃bs,bl[i]?=some bs/\gD true false bs lt
theorem pv(s:Nat):∀(a:List Fr) (b i:Nat),(Mir.bN s b a)[i]?=a[i]?.map (λf=>Mir.Lt.msg s (b+i) f)
 |[],b,i=>by simp[Mir.bN]
 |f::a,b,0=>by simp[Mir.bN]
 |f::a,b,i+1=>by
  have h:=pv s a (b+1) i;simp only[Mir.bN,OA];rw[h];congr 1
  funext g
  congr 1
  omega
theorem fB(s:Nat):∀(a:List Fr) (b:Nat),(Mir.bN s b a).length=a.length
 |[],b=>rfl
 |f::a,b=>by simp[Mir.bN,fB s a (b+1)]
theorem nj(I:PaI n c Z l W X U R V):JA (Mir.bN X.s X.base X.queue) (fT ⟨(X.s:Int),(X.base:Int),X.queue⟩):=by
 have⟨h1,h2,p⟩:=I.queue;have o:fT ⟨(X.s:Int),(X.base:Int),X.queue⟩=gU ⟨(X.s:Int),(X.base:Int),X.queue⟩ X.queue.length:=by
  unfold fT;rw[UY I.eU];unfold kH;congr 1;exact Uj h1
 have hs:=I.hs;have hc:=I.hc;rw[o];refine⟨by rw[fB,uk],λi q a=>?_⟩;rw[pv] at a;cases e:X.queue[i]? with
 |none=>rw[e] at a;simp at a
 |some f=>
  rw[e] at a;simp at a;subst a;have k:=(OI.1 e).1;have⟨h,j,b,d⟩:=I.ms f (h2 f (OR e));refine⟨kI ⟨(X.s:Int),(X.base:Int),X.queue⟩ i,?_,rfl,rfl,?_,j⟩
  ·unfold gU;rw[i8,T8 k];rfl
  ·rw[pG (f:=f) e];have m:(((X.base+i:Nat)):Int)=(X.base:Int)+(i:Int):=by omega
   rw[m];refine⟨?_,b,d,rfl⟩;rw[wD h (by omega) (by omega),UX (by omega)]
namespace Mx
theorem rC(s:n<=32){f:List B8}{a:List Pt}(o:bK n a=true)(m:cF l=0)(i:Va.length=n)(j:aH Va a=f)(k:∀x∈f,by8 x):
 (∀q∈pks Va l a,QW q)/\(pks Va l a).length<=32/\(∀x∈bV (pks Va l a),by8 x):=by
 have d:=eM o;have r:=((kA l).1 m).1;refine⟨?_,?_,?_⟩
 ·intro q e;have b:q∈(a.filter (gu Va)).map (λp=>cy p Va l):=by rw[<-ff];exact e
  obtain⟨p,c,rfl⟩:=m8.1 b;have h1:=ej d p ((Ur.1 c).1);exact yP h1.1 (by omega) (by omega) (by omega)
 ·rw[ff,pm];have h1:=UK (gu Va) a;have h2:=iV d (by omega);omega
 ·intro x h;unfold bV at h;obtain⟨q,e,rfl⟩:=m8.1 h;have b:q∈(a.filter (gu Va)).map (λp=>cy p Va l):=by rw[<-ff];exact(Ur.1 e).1
  obtain⟨p,c,rfl⟩:=m8.1 b;refine wS (k _ ?_);rw[<-j,<-gZ];exact sM d (Ug 0) (by rw[i]) p ((Ur.1 c).1)
end Mx
theorem BI(T S:Nat->Prop)(P n L:Nat)(z:List (List B8))(af:List B8)(t:Bu)(p:Pf_)(ab:Of_)(Y:Rc_)(ls:List Lt_)(I:PaI n L z af t p ab Y ls)(_:L+1<=1000000)(_:p.known=true)(K:p.queue=[])(F:p.goal<p.ar):
 ∃b J,b≠[]/\b.length<=4/\Mx.Good n z p.goal p.had b p.ar J/\∀w:W_,Mut S w->PrW T S w P n z t p ->
  C_ prog 190 #[(P,0)] w λD C=>D=Zv Zn/\H_ (PrD T S w C P n z t {p with goal:=p.ar,queue:=b,had:=J}):=by
 have⟨ad,B,A⟩:=I.snap (i:=p.goal) (by omega);have⟨y,o,u⟩:=I.snap (i:=p.ar) (by omega);have Q:=I.by_ y (OR o);have hh:=I.hh;have hs:=I.hs;have hc:=I.hc;have E:=I.liv.may;have c:=I.had;have R:∀(b:List Fr),b.length<=4->(∀f∈b,cO f=0)->∀k f,b[k]?=some f->iA ⟨(p.s:Int),(p.base:Int),b.take k⟩ f=0:=by
  intro b h e k f d;have ah:=I.queue.2.2;have ag:=(OI.1 d).1;have h5:(b.take k).length<=4:=by rw[OM];omega
  have h6:bO ⟨(p.s:Int),(p.base:Int),b.take k⟩=0:=by
   rw[sQ (by unfold dZ;simp only;omega) (by simp only;omega)];exact qh λg F=>e g (f9 F)
  exact Ev h6 (e f (OR d)) (by simp only;omega)
 cases hsi:cU t n (p.goal:Int) with
 |true=>
  have r:=AB I.n2 I.liv I.num (TP F) hsi B A I.seen.s0 c I.by_;have h1:=rB I.liv (by omega) (by rw[I.num];omega) hsi (by rw[m6];exact B);rw[I.num,m6] at h1;rw[o] at h1;have⟨H,x,G⟩:=rC I.n2 (np E hsi) c A (by rw[<-gZ];exact(OG h1).symm) Q;have h:(Upd.msgs ⟨(p.goal:Int),(p.ar:Int),pks ad p.had (bT t n (p.goal:Int)).aR⟩).length<=4:=Upd.og x;have e:=λf d=>(nW r (by omega) (by omega) f d).1
  refine⟨_,_,Upd.zA _,h,r,λw q j=>?_⟩;refine(rK q j K c (uD q j (N:=p.ar) rfl E (by omega) (by omega) hsi B o A u c) H x G rfl (R _ h e)).mono ?_;rintro D C ⟨h1,h2⟩;exact⟨h1,h2⟩
 |false=>
  have r:=AD (k:=p.goal) I.n2 o u c I.by_;have M:=kL y;rw[u] at M;have⟨H,x,G⟩:=rC I.n2 M c (Uq (n:=n) (a:=zB)) (ko y _ (by simp[u])) Q;have h:(Upd.msgs ⟨0,(p.ar:Int),pks (List.replicate n zB) p.had (bM y)⟩).length<=4:=Upd.og x;have e:=λf d=>(nW r (by omega) (by omega) f d).1
  refine⟨_,_,Upd.zA _,h,r,λw q j=>?_⟩;refine(rK q j K c (uE q j (N:=p.ar) rfl E (by omega) (by omega) hsi B o A u c) H x G rfl (R _ h e)).mono ?_;rintro D C ⟨h1,h2⟩;exact⟨h1,h2⟩
theorem IL(A S:Nat->Prop)(P n m:Nat)(f:List (List B8))(H:List B8)(j:Bu)(p:Pf_)(x:Of_)(r:Rc_)(F:List Lt_)(w:W_)(i:Mut S w)(c:PrW A S w P n f j p)(I:PaI n m f H j p x r F)(D:m+1<=1000000):
 C_ prog 149 #[(P,0)] w fun h b=>∃v,h=Zr #[v,Zn]/\H_ (∃C K y z,Mx.Mir.jC (Mx.Good n f) p r C K y/\JA y z/\cg w b w v z/\PrD A S w b P n f j C):=by
 have hs:=I.hs;have hc:=I.hc;cases hk:p.known with
 |false=>
  have E:=AY (k:=2) (s:=p.s) (by omega) (by omega) (by omega);refine(Fe c hk E).mono ?_;rintro h b ⟨v,h1,h2,a⟩;refine⟨v,h1,⟨p,r,[.opn p.s],_,.opn hk,⟨rfl,λq Q e=>?_⟩,h2,i.later a,c.later a,Ex.below a⟩⟩
  match q,e with
  |0,e=>
   simp at e;subst e;exact⟨_,rfl,rfl,rfl,fL E⟩
  |q+1,e=>simp at e
 |true=>
  by_cases d:p.queue=[]
  ·by_cases o:p.goal<p.ar
   ·have⟨l,t,L,N,M,J⟩:=BI A S P n m f H j p x r F I D hk d o;have G:Mx.Mir.jC (Mx.Good n f) p r {p with goal:=p.ar,queue:=l,had:=t} ⟨p.base,l,p.goal,p.ar,0,p.had,t⟩ (Mx.Mir.bN p.s p.base l):=.offer hk d o L N M;have u:=I.gu G D;refine(BM i c hk d o (λb B=>J b (i.later B) (c.later B)) u.eU).mono ?_;rintro h b ⟨v,h1,h2,a⟩;exact⟨v,h1,⟨_,_,_,_,G,nj u,h2,a⟩⟩
   ·refine(Fc i c hk d (by omega) I.eU).mono ?_;rintro h b ⟨v,h1,h2,a⟩;exact⟨v,h1,⟨p,r,_,_,.again hk (.inr (by omega)),nj I,h2,a⟩⟩
  ·refine(Ff i c hk d I.eU).mono ?_;rintro h b ⟨v,h1,h2,a⟩;exact⟨v,h1,⟨p,r,_,_,.again hk (.inl d),nj I,h2,a⟩⟩
end
section
open Go.RowKit
theorem PrW.sub{A S:Nat->Prop}{w:W_}{P n:Nat}{a:List (List B8)}{b:Bu}{p:Pf_}(h:PrW A S w P n a b p):∀x,A x->S x:=by
 have⟨g,i,o,k,e,q,d,m,j,r,f,l,c,hc,X⟩:=h;exact X.sub
theorem OtW.sub{B S:Nat->Prop}{w:W_}{O n:Nat}{a:List (List B8)}{o:Of_}(h:OtW B S w O n a o):∀x,B x->S x:=by
 have⟨g,b,c,d,f,e,hc,X⟩:=h;exact X.sub
theorem LiW.sub{C S:Nat->Prop}{w:W_}{B P O:Nat}{a:List Lt_}(h:LiW C S w B P O a):∀x,C x->S x:=by
 have⟨v,l,X⟩:=h;exact X.sub
structure PaX (G A D C S:Nat->Prop) (w:W_) (B P O n:Nat) (ae:List (List B8)) (b:Bu) (p:Pf_) (o:Of_) (ls:List Lt_):Prop where
 mu:Mut S w
 pr:PrW A S w P n ae b p
 ot:OtW D S w O n ae o
 ln:LiW C S w B P O ls
 ab:∀x,A x->¬D x
 ac:∀x,A x->¬C x
 bc:∀x,D x->¬C x
 gg:∀x,G x->S x/\¬A x/\¬D x/\¬C x
section
variable {w:W_}
theorem PaX.later{B:Nat}{w':W_}(h:PaX P A Q T S w B k m n Z W X U V)(a:OS w w'):PaX P A Q T S w' B k m n Z W X U V:=⟨h.mu.later a,h.pr.later a,h.ot.later a,h.ln.later a,h.ab,h.ac,h.bc,h.gg⟩
theorem PaX.first{p':Pf_}{b':Bu}{w':W_}(h:PaX P A Q T S w k m c n Z W X U V)(a:List (List B8))(hd:PrD A S w w' m n (Z++a) b' p'):PaX P A Q T S w' k m c n (Z++a) b' p' U V:=
 ⟨hd.mu,hd.pr,(h.ot.frame hd.ext h.pr.sub (λx d b=>h.ab x b d)).more a,h.ln.frame hd.ext h.pr.sub (λx d b=>h.ac x b d),h.ab,h.ac,h.bc,h.gg⟩
theorem PaX.vN{b':Bu}(h:PaX P A Q T S w k m c n Z W X U V)(hd:PrD A S w v m n Z b' Vd):PaX P A Q T S v k m c n Z b' Vd U V:=by
 have h1:=h.first (w':=v) (b':=b') (p':=Vd) [] (by rw[m7];exact hd);rw[m7] at h1;exact h1
theorem PaX.Mo{b':Bu}(h:PaX P A Q T S w k m c n Z W X U V)(hd:PrB A S w v m n Z b' Vd Vg):PaX P (λx=>A x\/Vg x) Q T (λx=>S x\/Vg x) v k m c n Z b' Vd U V:=by
 have hw:Wd S (λx=>S x\/Vg x) w:=λx hx hs=>by
  rcases hs with hs|hs
  ·exact hs
  ·have:=hd.new x hs;omega
 have fr:∀x,S x->¬Vg x:=λx hs hn=>by have h1:=h.mu.lt x hs;have h2:=hd.new x hn;omega
 exact⟨hd.mu,hd.pr,(h.ot.wd hw (λx hx=>.inl (h.ot.sub x hx))).frame hd.ext (λx hx=>.inl (h.pr.sub x hx)) (λx hx ha=>h.ab x ha hx),(h.ln.wd hw (λx hx=>.inl (h.ln.sub x hx))).frame hd.ext (λx hx=>.inl (h.pr.sub x hx)) (λx hx ha=>h.ac x ha hx),
  λx hx hb=>hx.elim (λha=>h.ab x ha hb) (fr x (h.ot.sub x hb)),λx hx hb=>hx.elim (λha=>h.ac x ha hb) (fr x (h.ln.sub x hb)),h.bc,λx hg=>⟨.inl (h.gg x hg).1,λhx=>hx.elim (h.gg x hg).2.1 (fr x (h.gg x hg).1),(h.gg x hg).2.2⟩⟩
theorem PaX.other{o':Of_}(h:PaX P A Q T S w k m c n Z W X U V)(hd:OtD Q S w v c n Z o'):PaX P A Q T S v k m c n Z W X o' V:=
 ⟨hd.mu,h.pr.frame hd.ext h.ot.sub (λx ha hx=>h.ab x ha hx),hd.ot,h.ln.frame hd.ext h.ot.sub (λx hx ha=>h.bc x ha hx),h.ab,h.ac,h.bc,h.gg⟩
theorem PaX.MK{o':Of_}(h:PaX P A Q T S w k m c n Z W X U V)(hd:OtB Q S w v c n Z o' Vg):PaX P A (λx=>Q x\/Vg x) T (λx=>S x\/Vg x) v k m c n Z W X o' V:=by
 have hw:Wd S (λx=>S x\/Vg x) w:=λx hx hs=>by
  rcases hs with hs|hs
  ·exact hs
  ·have:=hd.new x hs;omega
 have fr:∀x,S x->¬Vg x:=λx hs hn=>by have h1:=h.mu.lt x hs;have h2:=hd.new x hn;omega
 exact⟨hd.mu,(h.pr.wd hw (λx hx=>.inl (h.pr.sub x hx))).frame hd.ext (λx hx=>.inl (h.ot.sub x hx)) (λx ha hx=>h.ab x ha hx),hd.ot,(h.ln.wd hw (λx hx=>.inl (h.ln.sub x hx))).frame hd.ext (λx hx=>.inl (h.ot.sub x hx)) (λx hx ha=>h.bc x ha hx),
  λx ha hb=>hb.elim (h.ab x ha) (fr x (h.pr.sub x ha)),h.ac,λx hx hb=>hx.elim (λha=>h.bc x ha hb) (fr x (h.ln.sub x hb)),λx hg=>⟨.inl (h.gg x hg).1,(h.gg x hg).2.1,λhx=>hx.elim (h.gg x hg).2.2.1 (fr x (h.gg x hg).1),(h.gg x hg).2.2.2⟩⟩
theorem PaX.line(h:PaX P A Q T S w k m c n Z W X U V)(hd:LiB T S w v k m c Ve Vg):PaX P A Q (λx=>T x\/Vg x) (λx=>S x\/Vg x) v k m c n Z W X U Ve:=by
 have f:Wd S (λx=>S x\/Vg x) w:=λx a hs=>by
  rcases hs with hs|hs
  ·exact hs
  ·have:=hd.new x hs;omega
 have e:∀x,S x->¬Vg x:=λx hs i=>by have h1:=h.mu.lt x hs;have h2:=hd.new x i;omega
 exact⟨hd.mu,(h.pr.wd f (λx a=>.inl (h.pr.sub x a))).frame hd.ext (λx a=>.inl (h.ln.sub x a)) (λx b a=>h.ac x b a),(h.ot.wd f (λx a=>.inl (h.ot.sub x a))).frame hd.ext (λx a=>.inl (h.ln.sub x a)) (λx b a=>h.bc x b a),hd.ln,
  h.ab,λx b hc=>hc.elim (h.ac x b) (e x (h.pr.sub x b)),λx b hc=>hc.elim (h.bc x b) (e x (h.ot.sub x b)),λx d=>⟨.inl (h.gg x d).1,(h.gg x d).2.1,(h.gg x d).2.2.1,λa=>a.elim (h.gg x d).2.2.2 (e x (h.gg x d).1)⟩⟩
theorem PaX.Ns(h:PaX P A Q T S w k m c n Z W X U V)(hd:LiD T S w v k m c Ve):PaX P A Q T S v k m c n Z W X U Ve:=
 ⟨hd.mu,h.pr.frame hd.ext h.ln.sub (λx ha hx=>h.ac x ha hx),h.ot.frame hd.ext h.ln.sub (λx ha hx=>h.bc x ha hx),hd.ln,h.ab,h.ac,h.bc,h.gg⟩
theorem PaX.prG(h:PaX P A Q T S w k m c n Z W X U V):∀x,A x->S x/\¬P x:=λx a=>⟨h.pr.sub x a,λb=>(h.gg x b).2.1 a⟩
theorem PaX.otG(h:PaX P A Q T S w k m c n Z W X U V):∀x,Q x->S x/\¬P x:=λx a=>⟨h.ot.sub x a,λb=>(h.gg x b).2.2.1 a⟩
theorem PaX.lnG(h:PaX P A Q T S w k m c n Z W X U V):∀x,T x->S x/\¬P x:=λx a=>⟨h.ln.sub x a,λb=>(h.gg x b).2.2.2 a⟩
theorem PaX.box(h:PaX P A Q T S w k m c n Z W X U V):∃v l,Bx w k #[(m,0),(c,0),v] 208/\dr w v l/\l.length=V.length:=by
 have⟨v,l,a⟩:=h.ln;exact⟨v,l,a.bx,a.row,a.len⟩
end
structure Mv (G S S':Nat->Prop) (w w':W_):Prop where
 ext:Ex (fun x=>S x/\¬G x) w w'
 wd:Wd S S' w
theorem Mv.below{G S:Nat->Prop}{w a:W_}(h:OS w a):Mv G S S w a:=⟨Ex.below h,Wd.refl S w⟩
theorem Mv.same(h:Ex Vb v z)(c:∀x,Vb x->tL x/\¬O x):Mv O tL tL v z:=⟨h.mono λb _ a=>c b a,Wd.refl tL v⟩
theorem Mv.new{N:Nat->Prop}(h:Ex Vb v z)(d:∀x,Vb x->tL x/\¬O x)(c:∀x,N x->v.heap.size<=x):Mv O tL (λx=>tL x\/N x) v z:=⟨h.mono λb _ a=>d b a,λx e hs=>by
 rcases hs with hs|hs
 ·exact hs
 ·have:=c x hs;omega⟩
theorem Mv.bx{G S e:Nat->Prop}{w b:W_}{g:Nat}{a:Array V_}{t:TypeId}(h:Mv G S e w b)(d:Bx w g a t)(c:¬S g):Bx b g a t:=Ex.bx h.ext d (λq=>c q.1)
theorem Mv.trans{G S e d:Nat->Prop}{w f b:W_}(h:Mv G S e w f)(a:Mv G e d f b):Mv G S d w b:=⟨h.ext.chain a.ext (λi j c=>⟨h.wd i j c.1,c.2⟩),h.wd.trans a.wd h.ext.size⟩
def PaS(G:Nat->Prop)(S:Nat->Prop)(w:W_)(B n c:Nat)(ae:List (List B8))(now:List B8)(p:Pf_)(o:Of_)(r:Rc_)(ls:List Lt_):Prop:=
 ∃A D C P O b,PaX G A D C S w B P O n ae b p o ls/\PaI n c ae now b p o r ls
theorem PaS.later{G S:Nat->Prop}{w w':W_}{B n c:Nat}{a:List (List B8)}{d:List B8}{p:Pf_}{o:Of_}{r:Rc_}{b:List Lt_}(h:PaS G S w B n c a d p o r b)(f:OS w w'):PaS G S w' B n c a d p o r b:=by
 have⟨A,D,C,P,O,e,X,I⟩:=h;exact⟨A,D,C,P,O,e,X.later f,I⟩
theorem PaS.more{G S:Nat->Prop}{w:W_}{B n d a:Nat}{b:List (List B8)}{e:List B8}{p:Pf_}{o:Of_}{r:Rc_}{c:List Lt_}(h:PaS G S w B n d b e p o r c)(h1:d<=a)(h2:a<=1000000):PaS G S w B n a b e p o r c:=by
 have⟨A,D,C,P,O,f,X,I⟩:=h;exact⟨A,D,C,P,O,f,X,I.more h1 h2⟩
theorem Mv.pL(h:Mv O tL Vb v z)(hB:n<=v)(hs:∀x,tL x->n<=x):Below n v z/\∀x,Vb x->n<=x:=
 ⟨h.ext.toBelow_of hB (λx hx=>hs x hx.1),λx hx=>by
  by_cases hl:x<v.heap.size
  ·exact hs x (h.wd x hl hx)
  ·omega⟩
end
section
open Go.RowKit
variable {g:Bool}
theorem He{t:Bool}{p:Pf_}{o:Of_}{r:Rc_}(h:gD t g UZ U8)(a:t=false):(Mir.ev [] p o r U8).2.1=o/\(Mir.ev [] p o r U8).2.2.1=r/\(Mir.ev [] p o r U8).2.2.2=none:=by
 subst a;cases U8 with
 |eE=>exact⟨rfl,rfl,rfl⟩
 |opn s=>exact absurd h.2.1 (by simp)
 |msg s k f=>exact absurd h.2.1 (by simp)
 |hav s x=>simp only[Mir.ev];split<;>exact⟨rfl,rfl,rfl⟩
 |gone s=>simp only[Mir.ev];split<;>exact⟨rfl,rfl,rfl⟩
 |ack s k=>simp only[Mir.ev];split<;>exact⟨rfl,rfl,rfl⟩
theorem Hf{t:Bool}{p:Pf_}{o:Of_}{r:Rc_}(h:gD t g UZ U8)(a:t=true):(Mir.ev [] p o r U8).1=p:=by
 subst a;cases U8 with
 |eE=>rfl
 |opn s=>
  simp only[Mir.ev];split
  ·rfl
  ·split
   ·rfl
   ·split<;>rfl
 |msg s k f=>
  simp only[Mir.ev];split
  ·rfl
  ·split
   ·rfl
   ·split
    ·rfl
    ·split<;>rfl
 |hav s x=>exact absurd h.2.1 (by simp)
 |gone s=>exact absurd h.2.1 (by simp)
 |ack s k=>exact absurd h.2.1 (by simp)
theorem uC(m:PaS S O v k n c Z l X U R []):
 C_ prog 119 #[(k,0),x] v λe o=>e=Zv Zn/\H_ (OS v o):=by
 have⟨A,D,C,P,p,q,a,I⟩:=m;have i:=Y a.ln;clear a I;go_enter func119,ntmps119;go_wp2_with fail;refine(po i x).mono ?_;rintro e j ⟨rfl,d⟩;have⟨h,b⟩:=ZX (j.alloc (.cells #[Zl false,Zs,Zl false] 213));have f:H_ (OS v h):=(by rw[b];exact d.alloc d.size _);go_upto_region 2 with fail;rw[<-b];go_wp2;go_ret;exact⟨rfl,f⟩
theorem nD(hX:PaS S O v k n c Z l X U R V)(al:c+1<=1000000)(h0:-9223372036854775808<=x)(h1:x<=9223372036854775807)(hi:eV x V.length=(m:Int))(au:V[m]?=U8):
 C_ prog 119 #[(k,0),x] v λi w'=>i=Zv Zn/\H_ (∃S',PaS S S' w' k n (c+1) Z l (Mir.ev [] X U R U8).1 (Mir.ev [] X U R U8).2.1 (Mir.ev [] X U R U8).2.2.1 (V.eraseIdx m++(Mir.ev [] X U R U8).2.2.2.toList)/\Mv S O S' v w'):=by
 have⟨ak,H,aj,P,ab,an,ar,ao⟩:=hX;have h:=Y ar;have j:=Y ao;have f:=Y au;have aG:=Y hi;clear ar ao au hi;go_enter func119,ntmps119;go_wp2_with fail;refine(pq V h.mu h.ln h0 h1 aG U8 f).mono ?_;rintro i w1 ⟨b,rfl,aC,ay⟩;have X1:=Y (h.Ns ay);have⟨r,ad⟩:=ZX (w1.alloc (.cells #[Zl b.to_,(b.a,b.n,b.c),Zl b.g] 213));have⟨ax,G⟩:=ZX w1;have Q:=beA ad;have Y2:H_ (Bx r ax #[Zl b.to_,(b.a,b.n,b.c),Zl b.g] 213):=(by rw[ad,G];exact Bx.new w1 _ _);have X2:=Y (X1.later Q);have L2:=Y (aC.ext (Ex.below Q));have aK:∀z,O z->z<ax:=λz hy=>by rw[G];exact X1.mu.lt z hy
 have M2:=Y (show Mv S O O v r from(Mv.same ay.ext h.lnG).trans (Mv.below Q));have⟨xt,xa,xn,xc,xg⟩:=b;have⟨UZ,I,ag,aB,N,ai⟩:=L2.o;simp only at I ag aB N ai;have aH:=Y I;have s:=Y ai;have aw:=Y (OR f);clear I ai;go_upto_region 2 with fail;rw[<-ad,<-G];have⟨v2,l2,aA,aq,aE⟩:=X2.box;have⟨av,cv,hv,_⟩:=aq.len;have az:=Y aA;have y0:=Y2.cell 0;have y1:=Y2.cell 1;have p0:=az.cell 0;have p1:=az.cell 1;simp only[OB,OA,Oz] at y0 y1 p0 p1;clear aq aE hv aA;have u:=Y (show OS r r.drew from(ce _ _).drew);have d:=Y (X2.later u);have MD:=Y d.mu;have PD:=Y d.pr;have OD:=Y d.ot;have BD:=Y (aH.1.later u);cases xt with
 |false=>
  have e:=Y (He (p:=X) (o:=U) (r:=R) s rfl);go_upto_region 5 with fail;go_region_with (first|(go_at_call 151;(with_reducible refine(ES MD.o PD.o j.o aw.o BD.o N ag s.o).mono ?_);rintro i w3 ⟨rfl,C⟩));all_goals
   go_wp2;go_ret;have⟨b',hd,aD⟩:=C.o;have⟨e1,e2,e3⟩:=e.o;have J:=j.ev f aD al;rw[e1,e2,e3,Ud,m7] at J ⊢;exact⟨rfl,⟨O,⟨ak,H,aj,P,ab,b',d.vN hd,J⟩,(M2.trans (Mv.below u)).trans (Mv.same hd.ext d.prG)⟩⟩
 |true=>
  have e:=Y (Hf (p:=X) (o:=U) (r:=R) s rfl);go_upto_region 6 with fail;go_region_with (first|(go_at_call 152;(with_reducible refine(Es MD.o OD.o j.o aw.o BD.o N ag s.o).mono ?_);rintro i w3 ⟨v3,rfl,C,L⟩));all_goals
   have o:=Y (d.other C);have q:=Y (j.ev f j.liv al);have M3:=Y (show Mv S O O v w3 from(M2.trans (Mv.below u)).trans (Mv.same C.ext d.otG));obtain⟨ah,p⟩:∃ah:Option Lt_,H_ (ah=(Mir.ev [] X U R U8).2.2.2):=⟨_,rfl⟩;rw[<-p] at L q;rw[e] at q;cases ah with
   |none=>
    have B:v3=Zs:=L.o;subst B;go_wp2;go_ret;have J:=q.o;rw[Ud,m7] at J;refine⟨rfl,⟨O,⟨ak,H,aj,P,ab,an,?_,?_⟩,M3⟩⟩
    ·rw[e,<-p,Ud,m7];exact o
    ·rw[e,<-p,Ud,m7];exact J
   |some A=>
    have⟨a4,c4,am,B,af,F,y⟩:=L.o;have⟨L4,D⟩:=ZX am.length;rw[<-D] at B af F;subst B;have aJ:=Y (show iY O w3 ⟨false,some a4,L4,c4,false⟩ A from⟨am,af,F,by
     rw[D];have⟨aI,ns,nb,b9,hF⟩:=j5 y;exact hF.facts.2.1,by
     rw[D];have⟨aI,ns,nb,b9,hF⟩:=j5 y;exact hF.facts.1,y⟩)
    clear af F y;go_wp2_with fail;refine(od (V.eraseIdx m) o.mu o.ln ⟨false,some a4,L4,c4,false⟩ A aJ).mono ?_;rintro i w5 ⟨rfl,K5⟩;go_wp2;go_ret;have⟨ap,t⟩:=K5.o;have aF:fU (V.eraseIdx m) A=V.eraseIdx m++[A]:=by
     have h9:=h.ln.lim;have h8:=(OI.1 f).1;unfold fU;rw[UY (by rw[Up h8];omega)]
    rw[aF] at t;refine⟨rfl,⟨λb=>O b\/ap b,⟨ak,H,λb=>aj b\/ap b,P,ab,an,?_,?_⟩,M3.trans (Mv.new t.ext o.lnG t.new)⟩⟩
    ·rw[e,<-p];exact o.line t
    ·rw[e,<-p];exact q
end
section
open Go.RowKit
def ik(ls l:List Lt_):List Lt_:=l.foldl fU ls
theorem tW:∀(l a:List Lt_),∀x∈ik a l,x∈a++l
 |[],a,x,hx=>by simpa[ik] using hx
 |y::l,a,x,hx=>by
  have h1:=tW l (fU a y) x hx;rcases ip.1 h1 with h1|h1
  ·rcases ip.1 (ue a y x h1) with h2|h2
   ·exact Ut _ h2
   ·exact UL _ (by rw[i5.1 h2];exact li ..)
  ·exact UL _ (gt _ h1)
theorem rN:∀(l a:List Lt_),a.length+l.length<=64->ik a l=a++l
 |[],a,_=>by simp[ik]
 |y::l,a,h=>by
  simp only[fd] at h;have h1:fU a y=a++[y]:=by unfold fU;rw[UY (by omega)]
  have h2:=rN l (a++[y]) (by rw[OC];simp;omega);show ik (fU a y) l=_
  rw[h1,h2,eq];rfl
theorem BP:ik V (Ve++[U8])=fU (ik V Ve) U8:=by unfold ik;rw[dT];rfl
theorem Byo.mv{b:Nat->Prop}(h:Byo b v PP n UZ)(m:Mv S b O v z):Byo O z PP n UZ:=⟨(h.ext (m.ext.mono λ_ _ h=>h.1)).1,λhn p hp hs=>h.2 hn p hp (m.wd _ (h.1.ltA hn p hp) hs)⟩
theorem tV(a:Nat->Prop)(B n A:Nat)(q:List (List B8))(am:List B8)(aj:Pf_)(s:Of_)(U:Rc_)(d:List Lt_)(w:W_)(hX:PaS S a w B n A q am aj s U d)(ao:A+1<=1000000):
 C_ prog 118 #[(B,0)] w fun I w'=>I=Zv Zn/\H_ (∃b p C l,Mx.Mir.jC (Mx.Good n q) aj U p C l/\PaS S b w' B n (A+1) q am p s C (ik d l)/\Mv S a b w w'):=by
 have⟨al,ap,aP,P,av,L,Z,ar⟩:=hX;have e:=Y Z;have J:=Y ar;have⟨v0,l0,aD,_,_⟩:=Z.box;have p0:=Bx.cell aD 0;simp only[OB,Oz] at p0;clear Z ar aD;go_enter func118,ntmps118;go_wp2_with fail;refine(IL al a P n A q am L aj s U d w e.mu e.pr J ao).mono ?_;rintro I o ⟨aV,rfl,K1⟩;have⟨p,C,l,h,M,ah,ag,ab⟩:=K1.o;have HS:=Y M;have aH:=Y ah;have aN:=Y ag;have X1:=Y (e.vN ab);have M1:H_ (Mv S a a w o):=Mv.same ab.ext e.prG;have HJ:=Y ((J.gu M ao).sub (ls':=ik d l) (λaJ hx=>.inr (tW l d aJ hx)));have⟨va,vc,hv,aG,aq⟩:=ag.bn;have aS:=Y aq;have⟨N,m⟩:=ZX h.length;rw[<-m] at hv aG;subst hv;have K:H_ (l.length=N):=(by rw[m];exact ah.1);clear M ah ag ab aq p0 K1;have a0:N<=100:=by
  have X:=K.o;have:l.length<=4:=by
   cases HS with
   |opn _=>simp
   |again _ _=>rw[fB];exact J.queue.1
   |offer _ _ _ _ h4 _=>rw[fB];exact h4
  omega
 go_upto_region 4 with fail;go_upto_region 5 with fail;go_loopw [6,20] (λ_ ak wr=>∃(k:Nat),k<=N/\ak=Zb (k:Int)/\H_ (∃x b,PaX S al ap x b wr B P av n q L p s (ik d (l.take k))/\Mv S a b o wr)) (λ_ ak _=>N-(intOf ak).toNat)
 case atStart=>exact⟨0,ol _,rfl,⟨aP,a,X1,Mv.below (ce _ _)⟩⟩
 case round=>
  obtain⟨k,hk,rfl,r⟩:=hrel;by_cases ay:k<N
  ·have aX:(k:Int)<(N:Int):=by omega
   have⟨x,b,v,z⟩:=r.o;have u:=Y v;have Q:=Y z;have⟨vs,aC,aA⟩:=aN.o;have aO:h[k]?=some (h[k]'(by rw[<-m];exact ay)):=Ox _;obtain⟨f,R⟩:∃f,l[k]?=some f:=⟨_,Ox (by rw[K];exact ay)⟩;have⟨G,aB,ad⟩:=aH.2 k f R;have⟨E,c,D,H,af,az,au⟩:=aA k G aB;obtain⟨j,aZ,aK,an,aQ,F,_,_,_,aw⟩:∃g t O,Value.slice va N vc=.slice (some ⟨g,0,none⟩) h.length t/\w.heap.size<=g/\o.heap[g]?=some (.cells O 26 (0,0))/\h.length<=t/\t<=maxLen/\O.size=t*1/\O.toList.take (h.length*1)=vs:=by
    rcases aC.2 with ⟨_,h0⟩|h0
    ·exfalso;have:=m.o;omega
    ·exact h0
   have aI:va=some ⟨j,0,none⟩:=by injection an
   clear an;subst aI;have aE:=j5 ad;have⟨fk,aU,aT,aW,y⟩:=aE;have aL:¬a j:=λhs=>by have:=e.mu.lt _ hs;omega
   have ax:o.cell? (j,k)=(E,c,D):=by
    have hb:Bx o j aK 26:=F;rw[hb.cell k];rw[<-aw,ul (by have:=m.o;omega),GE] at H;exact H
   have c0:wr.cell? (j,k)=(E,c,D):=by
    rw[Q.ext.cell (Array.getElem?_eq_some_iff.1 F).1 (λX=>aL X.1)];exact ax
   have T:c=G.length:=af.1.symm;have LI:=Y (show iY b wr ⟨true,E,c,D,false⟩ f from⟨G,Byo.mv (b:=a) ⟨af.bytes y.facts.2.2,λhn aR hq hs=>by
    have h8:=(au hn aR hq).2;have X:=e.mu.lt _ hs;omega⟩ Q,az,by show 0<c;rw[T];exact y.facts.2.1,by show c<=2000;rw[T];exact y.facts.1,ad⟩)
   have aF:=Y R;clear aO H af az au F aw ax aQ y ad aB aC aA T R v z r;go_wp2_with fail;refine(od (ik d (l.take k)) u.mu u.ln ⟨true,E,c,D,false⟩ f LI).mono ?_;rintro I w5 ⟨rfl,K5⟩;clear c0;go_wp2;go_roundw
   case rel=>
    refine⟨k+1,by omega,by go_num,?_⟩;have⟨Nn,i⟩:=K5.o;rw[<-BP] at i;have e1:l.take k++[f]=l.take (k+1):=by rw[up,aF];rfl
    rw[e1] at i;exact Y ⟨_,_,u.line i,Q.trans (Mv.new i.ext u.lnG i.new)⟩
   case measure=>simp[intOf];omega
  ·have aM:k=N:=by omega
   subst aM;have HT:H_ (l.take k=l):=OL (by rw[K];exact OJ _);rw[HT] at r;go_wp2;go_ret;have⟨x,b,v,z⟩:=r.o;exact⟨rfl,⟨b,p,C,l,HS,⟨al,ap,x,P,av,L,v,HJ⟩,M1.trans z⟩⟩
end
section
open Go.RowKit
variable {w:W_}{g:Nat}
theorem Bx.cM{cs:Array V_}(h:Bx w g cs U1):Bx w.drew g cs U1:=h
def iW(w:W_)(g:Nat)(hv sf bk:Int)(v:V_):W_:=(((((((((((((w.setCell ⟨g,0,none⟩ (Zb 0)).setCell ⟨g,1,none⟩ (Za 0)).setCell ⟨g,2,none⟩ (Za 0)).setCell ⟨g,3,none⟩ (Za 0)).setCell ⟨g,4,none⟩ (Za 0)).setCell ⟨g,5,none⟩ (Za 0)).setCell ⟨g,6,none⟩ (Za 0)).setCell ⟨g,7,none⟩ (Za 0)).setCell ⟨g,8,none⟩ (Za 0)).setCell ⟨g,9,none⟩ (Zb hv)).setCell ⟨g,10,none⟩ (Zb sf)).setCell ⟨g,11,none⟩ (Zb bk)).setCell ⟨g,12,none⟩ (v))
theorem oK(h:Bx w g Zo 95):Bx (iW w g x y rl u) g #[Zi,Zu,Zu,Zu,Zu,Zu,Zu,Zu,Zu,x,y,rl,u] 95:=by
 have a:=(Bx.set (Bx.set (Bx.set (Bx.set (Bx.set (Bx.set (Bx.set (Bx.set (Bx.set (Bx.set (Bx.set (Bx.set (Bx.set h 0 (Zb 0)) 1 (Za 0)) 2 (Za 0)) 3 (Za 0)) 4 (Za 0)) 5 (Za 0)) 6 (Za 0)) 7 (Za 0)) 8 (Za 0)) 9 (Zb x)) 10 (Zb y)) 11 (Zb rl)) 12 (u));simp only[sp,Do,Eq] at a;exact a
theorem ke:v.grownBy (iW v n x y rl u) (some n):=by
 unfold iW;exact(ak (ak (ak (ak (ak (ak (ak (ak (ak (ak (ak (ak (ak (au _) _ _) _ _) _ _) _ _) _ _) _ _) _ _) _ _) _ _) _ _) _ _) _ _) _ _)
theorem rM(hX:PaS O tL v k n c Z l X U R V)(hbl:Z[U.back]?=Va):
 C_ prog 93 #[(k,0)] v λe S=>∃q,e=Zr #[.agg #[Zi,Zu,Zu,Zu,Zu,Zu,Zu,Zu,Zu,X.ar,X.safe,U.back,.slice (some ⟨q,0,none⟩) n n],Zn]/\H_ (ay S v (.slice (some ⟨q,0,none⟩) n n) Va)/\H_ (OS v S):=by
 have⟨aL,aD,aJ,ag,aI,aE,h,aA⟩:=hX;have⟨v0,l0,av,_,_⟩:=h.box;have⟨go,na,nn,nc,ha,hn,hc,B⟩:=h.ot;have⟨aC,ah,K⟩:=B.r.nd;rw[hbl] at ah;cases ah
 have⟨g,oa,on,oc,sa,sn,sc,aB,qa,qn,qc,aH,aF,aK,A⟩:=h.pr;have m:=Y av;have HM:=Y h.mu;have az:=Y K;have i:=Y B.bx;have p:=Y A.bx;have ax:=Y A.r.num;have⟨W0,F⟩:=ZX (v.alloc (.cells Zo 95));have d:=beA F;have H:=bxA F;have p1:=(Bx.later m d m.lt).cell 1;have x0:=(Bx.later i d i.lt).cell 0;have T:=(Bx.later i d i.lt).cell 1;simp only[OB,OA,Oz] at p1 x0 T;have MD:=Y (HM.later d);have ND:=Y (az.later d);clear h aA B A av K hbl;go_enter func93,ntmps93;go_upto_region 1 with fail;rw[<-F];go_wp2_with fail;refine(sj MD ND).mono ?_;rintro e w1 ⟨g',rfl,N1,E1⟩;clear p1 x0 T;have⟨W2,G⟩:=ZX (w1.alloc (.cells #[(g',0),n] 219));have s:=bxA G;have D2:=beA G;have N2:=Y (N1.later D2);have E2:=Y (E1.t D2);go_upto_region 2 with fail;rw[<-G];have⟨D,J⟩:=s.pair;go_upto_region 4 with fail;go_wp2_with fail;refine(gE N2.2.2).mono ?_;rintro e w3 ⟨rfl,r⟩;have B3:=Y (s.later r s.lt);have N3:=Y (N2.later r);have t:=Y (E2.t r);clear D J;have⟨D,J⟩:=B3.pair;go_upto_region 7 with fail;go_wp2_with fail;refine(oR N3.2.2).mono ?_;rintro e I ⟨q,rfl,O4,E4⟩;have F4:=Y (t.t E4);have j:=Y (d.t F4);have E:=Y (Bx.later H F4 H.lt);clear D J;have p0:=(Bx.later m j m.lt).cell 0;have o:=(Bx.later p j (Bx.lt p)).cell 2;have y7:=(Bx.later p j (Bx.lt p)).cell 7;simp only[OB,OA,Oz] at p0 o y7;rw[ax] at o;have zf:=E.frozen;have a:=λaw=>E.cell aw
 have ar:=a 0;have aq:=a 1;have Q:=a 2;have an:=a 3;have W:=a 4;have ap:=a 5;have ai:=a 6;have aj:=a 7;have af:=a 8;have au:=a 9;have ab:=a 10;have L:=a 11;have ak:=a 12;simp only[OB,OA,Oz] at ar aq Q an W ap ai aj af au ab L ak;clear a;have YD:H_ (I.drew.cell? (ag,2)=Zb (X.ar:Int)):=o;clear o;go_upto_region 10 with fail;go_region_with (first|(go_at_call 128;(with_reducible refine(fD ag YD.o).mono ?_);rintro e w5 ⟨rfl,ad⟩;rw[ad];clear ad));all_goals
  have⟨C,f⟩:=ZX ((iW I v (X.ar:Int) (X.safe:Int) (U.back:Int) (.slice (some ⟨q,0,none⟩) n n)).drew);have b:=Y (show Bx C v #[Zi,Zu,Zu,Zu,Zu,Zu,Zu,Zu,Zu,X.ar,X.safe,U.back,.slice (some ⟨q,0,none⟩) n n] 95 by
   rw[f];exact(oK E).cM)
  have G8:H_ (I.grownBy C (some v)):=(by rw[f];exact cZ (ke));unfold iW at f;rw[<-f];clear f;have F8:=Y (aM j G8 (OJ _));have aG:=(World.ownsRow.lt O4 q rfl).1;have O8:H_ (ay C v (.slice (some ⟨q,0,none⟩) n n) Va):=World.ownsRow.mono (World.ownsRow.kept O4 G8 (.inr (λe=>by have h9:=OG e;have h8:=d.size;have h7:=t.size;have h6:=H.lt;simp at h9;omega))) (OP d.size t.size);clear ar aq Q an W ap ai aj af au ab L ak zf p0 y7;have r0:=b.cell 0;have r1:=b.cell 1;have r2:=b.cell 2;have r3:=b.cell 3;have r4:=b.cell 4;have r5:=b.cell 5;have r6:=b.cell 6;have r7:=b.cell 7;have P:=b.cell 8;have N:=b.cell 9;have al:=b.cell 10;have am:=b.cell 11;have ao:=b.cell 12;simp only[OB,OA,Oz] at r0 r1 r2 r3 r4 r5 r6 r7 P N al am ao;go_wp2_with fail;exact UM (by simp[results,results93,go_sem,r0,r1,r2,r3,r4,r5,r6,r7,P,N,al,am,ao]) rfl ⟨q,rfl,O8,F8⟩
theorem PaS.len{G S:Nat->Prop}{w:W_}{B n c:Nat}{a:List (List B8)}{d:List B8}{p:Pf_}{o:Of_}{r:Rc_}{b:List Lt_}(h:PaS G S w B n c a d p o r b):a.length=p.ar+1:=by
 have⟨A,D,C,P,O,e,X,I⟩:=h;exact I.len
theorem PaS.lim{G S:Nat->Prop}{w:W_}{B n c:Nat}{b:List (List B8)}{d:List B8}{p:Pf_}{o:Of_}{r:Rc_}{a:List Lt_}(h:PaS G S w B n c b d p o r a):a.length<=64:=by
 have⟨A,D,C,P,O,e,X,I⟩:=h;exact X.ln.lim
end
section
open Go.RowKit
structure De where
 kind:Int
 at_:Int
 from_:Int
 d:B8
structure De.ok (x:De):Prop where
 a0:-9223372036854775808<=x.at_
 a1:x.at_<=9223372036854775807
 f0:-9223372036854775808<=x.from_
 f1:x.from_<=9223372036854775807
 b8:Mx.by8 x.d
namespace Mx
def inP(n:Nat)(at_:Int):Prop:=0<=at_/\at_<(n:Int)
instance (n:Nat) (at_:Int):Decidable (inP n at_):=by unfold inP;infer_instance
def cX(n:Nat)(at_:Int):Int:=if inP n at_ then 0 else 1
def dh(n:Nat)(now:List B8)(at_:Int)(d:B8):List B8:=if inP n at_ then ey now ⟨at_,d⟩ else now
def gm(n:Nat)(now:List B8)(at_:Int):B8:=if inP n at_ then now.getD at_.toNat zB else zB
end Mx
def DoD(G:Nat->Prop)(S:Nat->Prop)(w w':W_)(B n c:Nat)(ae:List (List B8))(now:List B8)(bk:Nat):Prop:=
 ∃S' p' o' r' ls',PaS G S' w' B n c ae now p' o' r' ls'/\bk<=o'.back/\Mv G S S' w w'
section
variable {w:W_}
theorem DoD.same(h:PaS P S w k n c Z l X U R V)(hc:c+1<=1000000)(a:OS w v):DoD P S w v k n (c+1) Z l U.back:=⟨S,X,U,R,V,(h.later a).more (Nat.le_succ _) hc,OJ _,Mv.below a⟩
theorem wW(b:PaX P A Q T S w k m j n Z W X U V)(I:PaI n c Z l W X U R V)(hc:c+1<=1000000)(a:Int)(hd:by8 tK):
 C_ prog 115 #[(m,0),a,tK] w λe f=>e=Zv (aJ (cX n a))/\H_ (DoD P S w f k n (c+1) Z (dh n l a tK) U.back):=by
 by_cases h:inP n a
 ·have i:cX n a=0:=by unfold cX;rw[UY h]
  have d:dh n l a tK=ey l ⟨a,tK⟩:=by unfold dh;rw[UY h]
  rw[i,d,aQ];refine(Fk X b.mu b.pr I.liv.may (d:=tK) h.1 h.2).mono ?_;rintro e f ⟨h1,h2⟩;exact⟨h1,⟨S,X,U,R,V,⟨A,Q,T,m,j,_,b.vN h2,(I.write h.1 h.2 hd).more (Nat.le_succ _) hc⟩,OJ _,Mv.same h2.ext b.prG⟩⟩
 ·have i:cX n a=1:=by unfold cX;rw[UX h]
  have d:dh n l a tK=l:=by unfold dh;rw[UX h]
  rw[i,d];refine(BQ X b.mu b.pr I.liv.may (d:=tK) (Y (by unfold inP at h;omega))).mono ?_;rintro e f ⟨h1,h2⟩;exact⟨by rw[h1];rfl,(DoD.same ⟨A,Q,T,m,j,W,b,I⟩ hc h2)⟩
theorem KM(b:PaX P A Q T S w k m j n Z W X U V)(I:PaI n c Z l W X U R V)(a:tK=gm n l x):
 C_ prog 116 #[(m,0),x] w λe o=>e=Zr #[tK,aJ (cX n x)]/\H_ (OS w o):=by
 have⟨p,h1,h2,q,i⟩:=I.last;refine Fb X b.pr h1 h2 I.liv.may (y:=x) (d:=tK) ?_ (V:=aJ (cX n x)) ?_
 ·by_cases h:inP n x
  ·left;have r:=I.seen.nl.1;have f:x.toNat<l.length:=by unfold inP at h;omega
   refine⟨h.1,h.2,?_⟩;rw[<-i,a];unfold gm;rw[UY h,Oy,Ox f];rfl
  ·right;refine⟨h,?_⟩;rw[a];unfold gm;rw[UX h]
 ·unfold cX;by_cases h:inP n x
  ·rw[UY h,UY (show 0<=x/\x<(n:Int) from h),aQ]
  ·rw[UX h,UX (show ¬(0<=x/\x<(n:Int)) from h)];rfl
theorem BJ(a:PaX P A Q T S w k m j n Z W X U V)(I:PaI n c Z l W X U R V)(hc:c+1<=1000000):
 C_ prog 117 #[(m,0)] w λe d=>e=Zv Zn/\H_ (DoD P S w d k n (c+1) (Z++[l]) l U.back):=by
 have⟨o,h1,h2,p,f⟩:=I.last;have i:=I.hh;have hs:=I.hs;refine(yw a.mu a.pr I.liv.may h1 I.len (by omega) (by omega)).mono ?_;rintro e d ⟨h,b⟩;rw[<-f] at b;exact⟨h,⟨S,_,U,R,V,⟨A,Q,T,m,j,_,a.first [l] b,I.JU hc⟩,OJ _,Mv.same b.ext a.prG⟩⟩
theorem IK(a:PaX P A Q T S w k m j n Z W X U V)(I:PaI n c Z Va W X U R V)(hc:c+1<=1000000)(hbl:Z[X.ar]?=l):
 C_ prog 123 #[(m,0)] w λh e=>h=Zv Zn/\H_ (DoD P S w e k n (c+1) Z l U.back):=by
 have⟨g,x,D,B,u,E,q,t,z,G,v,C,s,r,b⟩:=a.pr;have⟨F,f,i⟩:=b.r.nd;rw[hbl] at f;cases f
 have y:=I.hh;have hs:=I.hs;refine(tS a.mu b.bx rfl rfl rfl hbl i b.aP b.sub (by omega) (by omega)).mono ?_;rintro h e ⟨p,o⟩;have⟨N,d⟩:=o.o;exact⟨p,⟨_,_,U,R,V,⟨_,Q,T,m,j,_,a.Mo d,I.Mb hbl hc⟩,OJ _,Mv.new d.ext a.prG d.new⟩⟩
theorem Iv(a:PaX P A Q T S w k m j n Z W X U V)(I:PaI n c Z l W X U R V)(hc:c+1<=1000000):
 C_ prog 124 #[(j,0)] w λf e=>f=Zv Zn/\H_ (DoD P S w e k n (c+1) Z l U.back):=by
 have⟨x,p,q,s,v,t,r,b⟩:=a.ot;have⟨u,hbl,h⟩:=b.r.nd;refine(tQ a.mu b.bx rfl rfl rfl hbl h b.aO b.sub).mono ?_;rintro f e ⟨o,i⟩;have⟨N,d⟩:=i.o;exact⟨o,⟨_,X,_,R,V,⟨A,_,T,m,j,W,a.MK d,I.Ma.more (Nat.le_succ _) hc⟩,OJ _,Mv.new d.ext a.otG d.new⟩⟩
theorem KO{ls:List Lt_}{r:Rc_}{o:Of_}{p:Pf_}{now:List B8}{ae:List (List B8)}{c:Nat}(h:PaS P S w k n c ae now p o r ls)(hc:c+1<=1000000):
 C_ prog 118 #[(k,0)] w λe a=>e=Zv Zn/\H_ (DoD P S w a k n (c+1) ae now o.back):=by
 refine(tV S k n c ae now p o r ls w h hc).mono ?_;rintro e a ⟨m,d⟩;have⟨l,f,j,q,_,i,b⟩:=d.o;exact⟨m,⟨l,f,o,j,_,i,OJ _,b⟩⟩
theorem zY(h:V≠[])(a:Int):∃(i:Nat) (b:Lt_),eV a V.length=(i:Int)/\V[i]?=b:=by
 have c:0<V.length:=List.length_pos_iff.mpr h;have h1:=iB (x:=a) c;exact⟨(eV a V.length).toNat,_,by omega,Ox (by omega)⟩
theorem BK{ls:List Lt_}{r:Rc_}{o:Of_}{p:Pf_}{now:List B8}{ae:List (List B8)}{c:Nat}(h:PaS P S w k n c ae now p o r ls)(hc:c+1<=1000000)(h0:-9223372036854775808<=x)(h1:x<=9223372036854775807):
 C_ prog 119 #[(k,0),x] w λe a=>e=Zv Zn/\H_ (DoD P S w a k n (c+1) ae now o.back):=by
 by_cases i:ls=[]
 ·subst i;refine(uC h (x:=x)).mono ?_;rintro e a ⟨d,b⟩;exact⟨d,(DoD.same h hc b)⟩
 ·have⟨z,j,s,f⟩:=zY i x;have t:o.back<=(Mir.ev [] p o r j).2.1.back:=by
   have⟨A,Q,T,m,c,W,X,I⟩:=h;exact Mir.Kg I.bC.1 (I.bC.2 j (OR f))
  refine(nD h hc h0 h1 s f).mono ?_;rintro e a ⟨d,b⟩;have⟨y,u,q⟩:=b.o;exact⟨d,⟨y,_,_,_,_,u,t,q⟩⟩
theorem LiQ.dod(a:PaX P A Q T S w k m j n Z W X U V)(I:PaI n c Z l W X U R V)(hc:c+1<=1000000)(h:LiQ T S w v k m j V):DoD P S w v k n (c+1) Z l U.back:=by
 have⟨b,N,h1,h2⟩:=h;exact⟨_,X,U,R,b,⟨A,Q,_,m,j,W,a.line h1,(I.sub h2).more (Nat.le_succ _) hc⟩,OJ _,Mv.new h1.ext a.lnG h1.new⟩
theorem KL(a:PaX P A Q T S w k m j n Z W X U V)(I:PaI n c Z l W X U R V)(hc:c+1<=1000000)(h0:-9223372036854775808<=x)(h1:x<=9223372036854775807):
 C_ prog 120 #[(k,2),x] w λe f=>∃v,e=Zv v/\H_ (DoD P S w f k n (c+1) Z l U.back):=by
 by_cases h:V=[]
 ·subst h;refine(po a.ln x).mono ?_;rintro e f ⟨d,b⟩;exact⟨_,d,(DoD.same ⟨A,Q,T,m,j,W,a,I⟩ hc b)⟩
 ·have⟨r,q,o,i⟩:=zY h x;refine(pq V a.mu a.ln h0 h1 o q i).mono ?_;rintro e f ⟨s,d,_,b⟩;exact⟨_,d,(LiQ.dod a I hc ⟨_,_,LiD.b2 b,λy p=>.inr ((Ub _ _).subset p)⟩)⟩
theorem E0(a:PaX P A Q T S w k m j n Z W X U V)(I:PaI n c Z l W X U R V)(hc:c+1<=1000000)(h0:-9223372036854775808<=x)(h1:x<=9223372036854775807):
 C_ prog 121 #[(k,2),x] w λe b=>e=Zr #[]/\H_ (DoD P S w b k n (c+1) Z l U.back):=by
 refine(wh V a.mu a.ln h0 h1).mono ?_;rintro e b ⟨d,f⟩;exact⟨d,(LiQ.dod a I hc f)⟩
theorem Fa(a:PaX P A Q T S w k m j n Z W X U V)(I:PaI n c Z l W X U R V)(hc:c+1<=1000000)(h0:-9223372036854775808<=x)(h1:x<=9223372036854775807)(h:-9223372036854775808<=y)(b:y<=9223372036854775807):
 C_ prog 122 #[(k,2),x,y] w λe d=>e=Zr #[]/\H_ (DoD P S w d k n (c+1) Z l U.back):=by
 refine(wi V a.mu a.ln h0 h1 h b).mono ?_;rintro e d ⟨b,f⟩;exact⟨b,(LiQ.dod a I hc f)⟩
end
theorem bS{a:Array V_}(h:Bx v n a U1)(d:a[k]?=u):v.setCell (n,k) u=v:=by
 have h1:v.heap[n]?=some (.cells a U1 (0,0)):=h;have h2:a.setIfInBounds k u=a:=by
  apply TW;intro j;rw[Uh];split
  ·next e=>subst e;split<;>simp_all
  ·rfl
 have b:(v.setCell (n,k) u).heap=v.heap:=by
  unfold World.setCell;apply TW;intro j;simp only[TU];split
  ·next e=>subst e;rw[h1];simp[h2]
  ·rfl
 have c:v.setCell (n,k) u={v with heap:=(v.setCell (n,k) u).heap}:=rfl;rw[c,b]
end
section
open Go.RowKit
theorem DoD.pre{a:W_}(h:DoD P S v a m n c Z l k)(f:OS z v):DoD P S z a m n c Z l k:=by
 have⟨p,i,b,o,j,d,e,q⟩:=h;exact⟨p,i,b,o,j,d,e,(Mv.below f).trans q⟩
theorem iu{x:B8}(H:Bx v n x U1):(((((((v.setCell n (Za x.z0)).setCell (n,1) (Za x.z1)).setCell (n,2) (Za x.z2)).setCell (n,3) (Za x.z3)).setCell (n,4) (Za x.z4)).setCell (n,5) (Za x.z5)).setCell (n,6) (Za x.z6)).setCell (n,7) (Za x.z7)=v:=by
 rw[bS H rfl,bS H rfl,bS H rfl,bS H rfl,bS H rfl,bS H rfl,bS H rfl,bS H rfl]
theorem eY{x:B8}(j:H_ (OU v n x))(O:H_ (Vc (Zr #[x,u]) v)){T A Q:V_}:
 aA Tryz.f92 Vc 2 ⟨#[N,L,K,M,(n,0),u,J,I,H,G,F,E,D,C,B,t,s,r,q,p,o,i,h,f,e,d,b,a,aN,br,bL,cE,fK,dC,ed,em,et,ex,eW,fl,gT,iK,jh,jJ,kN,kO,lW,mk,mO,nk,og,oI,en,ql,qB,rt,sd,so,sB,tJ,ve,vJ,dv,vZ,wp,xE,zi,zy,zA,Ab,Ar,Er,Gj,Gq,JE,JF,JL,JU,Kv,KC,LH,LJ,LQ,Ma,Mb,Mn,dw,ME,ee,Nc,Np,ek,NK,NM,NT,NV,Oa,Ov,T,A,Q],[]⟩ v:=by
 refine bg (c:=.seq _ .ret) rfl ?_;have P:=Y (iu j);have⟨y,m,U,k,z,R,l,S⟩:=j.eight;have V:=j.frozen;go_wp2_with fail;rw[P];exact UM (by simp[results,results92,go_sem,y,m,U,k,z,R,l,S]) rfl O
theorem yx{h1 h0:Nat}(HX:H_ (PaX P A Q T S v k m j n Z W X U V))(HI:H_ (PaI n c Z l W X U R V))(hc:c+1<=1000000)(OK:H_ (De.ok ⟨x,y,rl,tK⟩))(B0:H_ (OV v h0 x y rl tK))(B1:H_ (OT v h1))(NS:H_ (¬S h0/\¬S h1))(DV:H_ (OS z v))(ad:x=3):
 aA Tryz.f92 (λab w'=>ab=Zr #[(),Zn]/\H_ (DoD P S z w' k n (c+1) (Z++[l]) l U.back)) 1 ⟨#[(k,0),u,N,(h0,0),(h1,0),Zn,M,L,K,J,I,H,G,F,E,D,C,B,t,s,r,q,p,o,i,h,f,e,d,b,a,aN,br,bL,cE,fK,dC,ed,em,et,ex,eW,fl,gT,iK,jh,jJ,kN,kO,lW,mk,mO,nk,og,oI,en,ql,qB,rt,sd,so,sB,tJ,ve,vJ,dv,vZ,wp,xE,zi,zy,zA,Ab,Ar,Er,Gj,Gq,JE,JF,JL,JU,Kv,KC,LH,LJ,LQ,Ma,Mb,Mn,dw,ME,ee,Nc,Np,ek,NK,NM,NT,NV,Oa,Ov],[]⟩ v:=by
 refine aj rfl ?_;intro af hK;have z0:=B0.cell 0;have z1:=B0.cell 1;simp only[OB,OA,Oz] at z0 z1;subst ad;have⟨v2,l2,O,_,_⟩:=HX.box;have p0:=Bx.cell O 0;have p1:=Bx.cell O 1;simp only[OB,OA,Oz] at p0 p1;clear O;go_wp2_with fail;refine(BJ HX HI hc).mono ?_;rintro ab w2 ⟨rfl,K2⟩;have B2:=Y (show OT w2 h1 from by
  have⟨S',p',o',r',ag,_,_,hm⟩:=K2.o;exact hm.bx B1 NS.2)
 go_wp2_with fail;exact Met.intro (eY (x:=zB) B2 (Y ⟨rfl,Y (DoD.pre K2.o DV.o)⟩))
theorem IG{h1 h0:Nat}(HX:H_ (PaX P A Q T S v k m j n Z W X U V))(HI:H_ (PaI n c Z l W X U R V))(hc:c+1<=1000000)(OK:H_ (De.ok ⟨x,y,rl,tK⟩))(B0:H_ (OV v h0 x y rl tK))(B1:H_ (OT v h1))(NS:H_ (¬S h0/\¬S h1))(DV:H_ (OS z v))(ad:x=4):
 aA Tryz.f92 (λab w'=>ab=Zr #[(),Zn]/\H_ (DoD P S z w' k n (c+1) Z l U.back)) 1 ⟨#[(k,0),u,N,(h0,0),(h1,0),Zn,M,L,K,J,I,H,G,F,E,D,C,B,t,s,r,q,p,o,i,h,f,e,d,b,a,aN,br,bL,cE,fK,dC,ed,em,et,ex,eW,fl,gT,iK,jh,jJ,kN,kO,lW,mk,mO,nk,og,oI,en,ql,qB,rt,sd,so,sB,tJ,ve,vJ,dv,vZ,wp,xE,zi,zy,zA,Ab,Ar,Er,Gj,Gq,JE,JF,JL,JU,Kv,KC,LH,LJ,LQ,Ma,Mb,Mn,dw,ME,ee,Nc,Np,ek,NK,NM,NT,NV,Oa,Ov],[]⟩ v:=by
 refine aj rfl ?_;intro af hK;have z0:=B0.cell 0;have z1:=B0.cell 1;simp only[OB,OA,Oz] at z0 z1;subst ad;go_wp2_with fail;refine(KO (c:=c) (ae:=Z) (now:=l) (p:=X) (o:=U) (r:=R) (ls:=V) ⟨A,Q,T,m,j,W,HX,HI⟩ hc).mono ?_;rintro ab w2 ⟨rfl,O⟩;have B2:=Y (show OT w2 h1 from by
  have⟨S',p',o',r',ag,_,_,hm⟩:=O.o;exact hm.bx B1 NS.2)
 go_wp2_with fail;exact Met.intro (eY (x:=zB) B2 (Y ⟨rfl,Y (DoD.pre O.o DV.o)⟩))
theorem yy{h1 h0:Nat}(HX:H_ (PaX P A Q T S v k m j n Z W X U V))(HI:H_ (PaI n c Z l W X U R V))(hc:c+1<=1000000)(OK:H_ (De.ok ⟨x,y,rl,tK⟩))(B0:H_ (OV v h0 x y rl tK))(B1:H_ (OT v h1))(NS:H_ (¬S h0/\¬S h1))(DV:H_ (OS z v))(ad:x=5):
 aA Tryz.f92 (λab w'=>ab=Zr #[(),Zn]/\H_ (DoD P S z w' k n (c+1) Z l U.back)) 1 ⟨#[(k,0),u,N,(h0,0),(h1,0),Zn,M,L,K,J,I,H,G,F,E,D,C,B,t,s,r,q,p,o,i,h,f,e,d,b,a,aN,br,bL,cE,fK,dC,ed,em,et,ex,eW,fl,gT,iK,jh,jJ,kN,kO,lW,mk,mO,nk,og,oI,en,ql,qB,rt,sd,so,sB,tJ,ve,vJ,dv,vZ,wp,xE,zi,zy,zA,Ab,Ar,Er,Gj,Gq,JE,JF,JL,JU,Kv,KC,LH,LJ,LQ,Ma,Mb,Mn,dw,ME,ee,Nc,Np,ek,NK,NM,NT,NV,Oa,Ov],[]⟩ v:=by
 refine aj rfl ?_;intro af hK;have z0:=B0.cell 0;have z1:=B0.cell 1;simp only[OB,OA,Oz] at z0 z1;subst ad;go_wp2_with fail;refine(BK (c:=c) (ae:=Z) (now:=l) (p:=X) (o:=U) (r:=R) (ls:=V) ⟨A,Q,T,m,j,W,HX,HI⟩ hc OK.a0 OK.a1).mono ?_;rintro ab w2 ⟨rfl,O⟩;have B2:=Y (show OT w2 h1 from by
  have⟨S',p',o',r',ag,_,_,hm⟩:=O.o;exact hm.bx B1 NS.2)
 go_wp2_with fail;exact Met.intro (eY (x:=zB) B2 (Y ⟨rfl,Y (DoD.pre O.o DV.o)⟩))
theorem EM{h1 h0:Nat}(HX:H_ (PaX P A Q T S v k m j n Z W X U V))(HI:H_ (PaI n c Z l W X U R V))(hc:c+1<=1000000)(OK:H_ (De.ok ⟨x,y,rl,tK⟩))(B0:H_ (OV v h0 x y rl tK))(B1:H_ (OT v h1))(NS:H_ (¬S h0/\¬S h1))(DV:H_ (OS z v))(ad:x=8)(hbl:H_ (Z[X.ar]?=Va)):
 aA Tryz.f92 (λab w'=>ab=Zr #[(),Zn]/\H_ (DoD P S z w' k n (c+1) Z Va U.back)) 1 ⟨#[(k,0),u,N,(h0,0),(h1,0),Zn,M,L,K,J,I,H,G,F,E,D,C,B,t,s,r,q,p,o,i,h,f,e,d,b,a,aN,br,bL,cE,fK,dC,ed,em,et,ex,eW,fl,gT,iK,jh,jJ,kN,kO,lW,mk,mO,nk,og,oI,en,ql,qB,rt,sd,so,sB,tJ,ve,vJ,dv,vZ,wp,xE,zi,zy,zA,Ab,Ar,Er,Gj,Gq,JE,JF,JL,JU,Kv,KC,LH,LJ,LQ,Ma,Mb,Mn,dw,ME,ee,Nc,Np,ek,NK,NM,NT,NV,Oa,Ov],[]⟩ v:=by
 refine aj rfl ?_;intro af hK;have z0:=B0.cell 0;have z1:=B0.cell 1;simp only[OB,OA,Oz] at z0 z1;subst ad;have⟨v2,l2,O,_,_⟩:=HX.box;have p0:=Bx.cell O 0;have p1:=Bx.cell O 1;simp only[OB,OA,Oz] at p0 p1;clear O;go_wp2_with fail;refine(IK HX HI hc hbl).mono ?_;rintro ab w2 ⟨rfl,K2⟩;have B2:=Y (show OT w2 h1 from by
  have⟨S',p',o',r',ag,_,_,hm⟩:=K2.o;exact hm.bx B1 NS.2)
 go_wp2_with fail;exact Met.intro (eY (x:=zB) B2 (Y ⟨rfl,Y (DoD.pre K2.o DV.o)⟩))
theorem EO{h1 h0:Nat}(HX:H_ (PaX P A Q T S v k m j n Z W X U V))(HI:H_ (PaI n c Z l W X U R V))(hc:c+1<=1000000)(OK:H_ (De.ok ⟨x,y,rl,tK⟩))(B0:H_ (OV v h0 x y rl tK))(B1:H_ (OT v h1))(NS:H_ (¬S h0/\¬S h1))(DV:H_ (OS z v))(ad:x=9):
 aA Tryz.f92 (λab w'=>ab=Zr #[(),Zn]/\H_ (DoD P S z w' k n (c+1) Z l U.back)) 1 ⟨#[(k,0),u,N,(h0,0),(h1,0),Zn,M,L,K,J,I,H,G,F,E,D,C,B,t,s,r,q,p,o,i,h,f,e,d,b,a,aN,br,bL,cE,fK,dC,ed,em,et,ex,eW,fl,gT,iK,jh,jJ,kN,kO,lW,mk,mO,nk,og,oI,en,ql,qB,rt,sd,so,sB,tJ,ve,vJ,dv,vZ,wp,xE,zi,zy,zA,Ab,Ar,Er,Gj,Gq,JE,JF,JL,JU,Kv,KC,LH,LJ,LQ,Ma,Mb,Mn,dw,ME,ee,Nc,Np,ek,NK,NM,NT,NV,Oa,Ov],[]⟩ v:=by
 refine aj rfl ?_;intro af hK;have z0:=B0.cell 0;have z1:=B0.cell 1;simp only[OB,OA,Oz] at z0 z1;subst ad;have⟨v2,l2,O,_,_⟩:=HX.box;have p0:=Bx.cell O 0;have p1:=Bx.cell O 1;simp only[OB,OA,Oz] at p0 p1;clear O;go_wp2_with fail;refine(Iv HX HI hc).mono ?_;rintro ab w2 ⟨rfl,K2⟩;have B2:=Y (show OT w2 h1 from by
  have⟨S',p',o',r',ag,_,_,hm⟩:=K2.o;exact hm.bx B1 NS.2)
 go_wp2_with fail;exact Met.intro (eY (x:=zB) B2 (Y ⟨rfl,Y (DoD.pre K2.o DV.o)⟩))
theorem EP{h1 h0:Nat}(HX:H_ (PaX P A Q T S v k m j n Z W X U V))(HI:H_ (PaI n c Z l W X U R V))(hc:c+1<=1000000)(OK:H_ (De.ok ⟨x,y,rl,tK⟩))(O:H_ (OV v h0 x y rl tK))(B1:H_ (OT v h1))(NS:H_ (¬S h0/\¬S h1))(DV:H_ (OS z v))(ad:H_ (¬x=0/\¬x=1/\¬x=2/\¬x=3/\¬x=4/\¬x=5/\¬x=6/\¬x=7/\¬x=8/\¬x=9/\¬x=10)):
 aA Tryz.f92 (λaf w'=>af=Zr #[(),Zf 3]/\H_ (DoD P S z w' k n (c+1) Z l U.back)) 1 ⟨#[(k,0),u,N,(h0,0),(h1,0),Zn,M,L,K,J,I,H,G,F,E,D,C,B,t,s,r,q,p,o,i,h,f,e,d,b,a,aN,br,bL,cE,fK,dC,ed,em,et,ex,eW,fl,gT,iK,jh,jJ,kN,kO,lW,mk,mO,nk,og,oI,en,ql,qB,rt,sd,so,sB,tJ,ve,vJ,dv,vZ,wp,xE,zi,zy,zA,Ab,Ar,Er,Gj,Gq,JE,JF,JL,JU,Kv,KC,LH,LJ,LQ,Ma,Mb,Mn,dw,ME,ee,Nc,Np,ek,NK,NM,NT,NV,Oa,Ov],[]⟩ v:=by
 refine aj rfl ?_;intro ai hK;have z0:=O.cell 0;have z1:=O.cell 1;simp only[OB,OA,Oz] at z0 z1;have ag:=OK.a0;have ab:=NS.1;clear ag ab;have⟨k0,k1,k2,k3,k4,k5,k6,k7,k8,k9,ah⟩:=ad.o;go_wp2_with fail;exact Met.intro (eY (x:=zB) B1 (Y ⟨rfl,Y (DoD.pre (DoD.same ⟨A,Q,T,m,j,W,HX.o,HI.o⟩ hc (ce _ _)) DV.o)⟩))
theorem ID{h1 h0:Nat}(HX:H_ (PaX P A Q T S v k m j n Z W X U V))(HI:H_ (PaI n c Z l W X U R V))(hc:c+1<=1000000)(OK:H_ (De.ok ⟨x,y,rl,tK⟩))(B0:H_ (OV v h0 x y rl tK))(B1:H_ (OT v h1))(NS:H_ (¬S h0/\¬S h1))(DV:H_ (OS z v))(ad:x=6):
 aA Tryz.f92 (λab w'=>ab=Zr #[(),Zn]/\H_ (DoD P S z w' k n (c+1) Z l U.back)) 1 ⟨#[(k,0),u,N,(h0,0),(h1,0),Zn,M,L,K,J,I,H,G,F,E,D,C,B,t,s,r,q,p,o,i,h,f,e,d,b,a,aN,br,bL,cE,fK,dC,ed,em,et,ex,eW,fl,gT,iK,jh,jJ,kN,kO,lW,mk,mO,nk,og,oI,en,ql,qB,rt,sd,so,sB,tJ,ve,vJ,dv,vZ,wp,xE,zi,zy,zA,Ab,Ar,Er,Gj,Gq,JE,JF,JL,JU,Kv,KC,LH,LJ,LQ,Ma,Mb,Mn,dw,ME,ee,Nc,Np,ek,NK,NM,NT,NV,Oa,Ov],[]⟩ v:=by
 refine aj rfl ?_;intro ag hK;have z0:=B0.cell 0;have z1:=B0.cell 1;simp only[OB,OA,Oz] at z0 z1;subst ad;have O:=Y (show OS v v.drew from(ce _ _).drew);have XD:=Y (HX.later O);have BD:H_ (OT v.drew h1):=B1.cM;go_upto_region 16 with fail;go_region_with (first|(go_at_call 120;(with_reducible refine(KL XD.o HI.o hc OK.o.a0 OK.o.a1).mono ?_);rintro ab w2 ⟨af,rfl,K2⟩));all_goals
  have K3:=Y (DoD.pre (DoD.pre K2 O) DV);have B2:=Y (show OT w2 h1 from by
   have⟨S',p',o',r',ah,_,_,hm⟩:=K2.o;exact hm.bx BD NS.2)
  go_wp2_with fail;exact Met.intro (eY (x:=zB) B2 (Y ⟨rfl,K3⟩))
theorem Br{h1 h0:Nat}(HX:H_ (PaX P A Q T S v k m j n Z W X U V))(HI:H_ (PaI n c Z l W X U R V))(hc:c+1<=1000000)(OK:H_ (De.ok ⟨x,y,rl,tK⟩))(B0:H_ (OV v h0 x y rl tK))(B1:H_ (OT v h1))(NS:H_ (¬S h0/\¬S h1))(DV:H_ (OS z v))(ad:x=7):
 aA Tryz.f92 (λab w'=>ab=Zr #[(),Zn]/\H_ (DoD P S z w' k n (c+1) Z l U.back)) 1 ⟨#[(k,0),u,N,(h0,0),(h1,0),Zn,M,L,K,J,I,H,G,F,E,D,C,B,t,s,r,q,p,o,i,h,f,e,d,b,a,aN,br,bL,cE,fK,dC,ed,em,et,ex,eW,fl,gT,iK,jh,jJ,kN,kO,lW,mk,mO,nk,og,oI,en,ql,qB,rt,sd,so,sB,tJ,ve,vJ,dv,vZ,wp,xE,zi,zy,zA,Ab,Ar,Er,Gj,Gq,JE,JF,JL,JU,Kv,KC,LH,LJ,LQ,Ma,Mb,Mn,dw,ME,ee,Nc,Np,ek,NK,NM,NT,NV,Oa,Ov],[]⟩ v:=by
 refine aj rfl ?_;intro af hK;have z0:=B0.cell 0;have z1:=B0.cell 1;simp only[OB,OA,Oz] at z0 z1;subst ad;have O:=Y (show OS v v.drew from(ce _ _).drew);have XD:=Y (HX.later O);have BD:H_ (OT v.drew h1):=B1.cM;go_upto_region 18 with fail;go_region_with (first|(go_at_call 121;(with_reducible refine(E0 XD.o HI.o hc OK.o.a0 OK.o.a1).mono ?_);rintro ab w2 ⟨rfl,K2⟩));all_goals
  have K3:=Y (DoD.pre (DoD.pre K2 O) DV);have B2:=Y (show OT w2 h1 from by
   have⟨S',p',o',r',ag,_,_,hm⟩:=K2.o;exact hm.bx BD NS.2)
  go_wp2_with fail;exact Met.intro (eY (x:=zB) B2 (Y ⟨rfl,K3⟩))
theorem Bt{h1 h0:Nat}(HX:H_ (PaX P A Q T S v k m j n Z W X U V))(HI:H_ (PaI n c Z l W X U R V))(hc:c+1<=1000000)(O:H_ (De.ok ⟨x,y,rl,tK⟩))(B0:H_ (OV v h0 x y rl tK))(B1:H_ (OT v h1))(NS:H_ (¬S h0/\¬S h1))(DV:H_ (OS z v))(ad:x=10):
 aA Tryz.f92 (λab w'=>ab=Zr #[(),Zn]/\H_ (DoD P S z w' k n (c+1) Z l U.back)) 1 ⟨#[(k,0),u,N,(h0,0),(h1,0),Zn,M,L,K,J,I,H,G,F,E,D,C,B,t,s,r,q,p,o,i,h,f,e,d,b,a,aN,br,bL,cE,fK,dC,ed,em,et,ex,eW,fl,gT,iK,jh,jJ,kN,kO,lW,mk,mO,nk,og,oI,en,ql,qB,rt,sd,so,sB,tJ,ve,vJ,dv,vZ,wp,xE,zi,zy,zA,Ab,Ar,Er,Gj,Gq,JE,JF,JL,JU,Kv,KC,LH,LJ,LQ,Ma,Mb,Mn,dw,ME,ee,Nc,Np,ek,NK,NM,NT,NV,Oa,Ov],[]⟩ v:=by
 refine aj rfl ?_;intro af hK;have z0:=B0.cell 0;have z1:=B0.cell 1;simp only[OB,OA,Oz] at z0 z1;subst ad;have c2:=B0.cell 2;simp only[OB,OA,Oz] at c2;have DD:=Y (show OS v v.drew from(ce _ _).drew);have XD:=Y (HX.later DD);have BD:H_ (OT v.drew h1):=B1.cM;go_upto_region 20 with fail;go_region_with (first|(go_at_call 122;(with_reducible refine(Fa XD.o HI.o hc O.o.a0 O.o.a1 O.o.f0 O.o.f1).mono ?_);rintro ab w2 ⟨rfl,K2⟩));all_goals
  have K3:=Y (DoD.pre (DoD.pre K2 DD) DV);have B2:=Y (show OT w2 h1 from by
   have⟨S',p',o',r',ag,_,_,hm⟩:=K2.o;exact hm.bx BD NS.2)
  go_wp2_with fail;exact Met.intro (eY (x:=zB) B2 (Y ⟨rfl,K3⟩))
end
section
open Go.RowKit
variable {w:W_}
theorem jt(h:Bx w n () U1):w.cell? n=Za 0/\w.cell? (n,1)=Za 0/\w.cell? (n,2)=Za 0/\w.cell? (n,3)=Za 0/\w.cell? (n,4)=Za 0/\w.cell? (n,5)=Za 0/\w.cell? (n,6)=Za 0/\w.cell? (n,7)=Za 0/\∀o,w.frozen? ⟨n,o,none⟩=false:=⟨h.cell 0,h.cell 1,h.cell 2,h.cell 3,h.cell 4,h.cell 5,h.cell 6,h.cell 7,h.frozen⟩
theorem KP(a:PaX P A Q T S w k m j n Z W X U V)(I:PaI n c Z l W X U R V)(hc:c+1<=1000000):
 C_ prog 115 #[(m,0),x,()] w λe b=>e=Zv (aJ (cX n x))/\H_ (DoD P S w b k n (c+1) Z (dh n l x zB) U.back):=wW a I hc x Mx.bW
theorem ER{h1 h0:Nat}(HX:H_ (PaX P A Q T S v k m j n Z W X U V))(HI:H_ (PaI n c Z l W X U R V))(hc:c+1<=1000000)(OK:H_ (De.ok ⟨x,y,rl,tK⟩))(O:H_ (OV v h0 x y rl tK))(B1:H_ (OT v h1))(NS:H_ (¬S h0/\¬S h1))(DV:H_ (OS z v))(af:x=0):
 aA Tryz.f92 (λab w'=>ab=Zr #[(),aJ (cX n y)]/\H_ (DoD P S z w' k n (c+1) Z (dh n l y tK) U.back)) 1 ⟨#[(k,0),u,N,(h0,0),(h1,0),Zn,M,L,K,J,I,H,G,F,E,D,C,B,t,s,r,q,p,o,i,h,f,e,d,b,a,aN,br,bL,cE,fK,dC,ed,em,et,ex,eW,fl,gT,iK,jh,jJ,kN,kO,lW,mk,mO,nk,og,oI,en,ql,qB,rt,sd,so,sB,tJ,ve,vJ,dv,vZ,wp,xE,zi,zy,zA,Ab,Ar,Er,Gj,Gq,JE,JF,JL,JU,Kv,KC,LH,LJ,LQ,Ma,Mb,Mn,dw,ME,ee,Nc,Np,ek,NK,NM,NT,NV,Oa,Ov],[]⟩ v:=by
 refine aj rfl ?_;intro ai hK;have z0:=O.cell 0;have z1:=O.cell 1;simp only[OB,OA,Oz] at z0 z1;subst af;have⟨v2,l2,ad,_,_⟩:=HX.box;have p0:=Bx.cell ad 0;have p1:=Bx.cell ad 1;simp only[OB,OA,Oz] at p0 p1;have c3:=O.cell 3;have c4:=O.cell 4;have c5:=O.cell 5;have c6:=O.cell 6;have c7:=O.cell 7;have c8:=O.cell 8;have c9:=O.cell 9;have ag:=O.cell 10;simp only[OB,OA,Oz] at c3 c4 c5 c6 c7 c8 c9 ag;have DD:=Y (show OS v v.drew from(ce _ _).drew);have XD:=Y (HX.later DD);have BD:H_ (OT v.drew h1):=B1.cM;go_upto_region 4 with fail;go_region_with (first|(go_at_call 115;(with_reducible refine(wW XD.o HI.o hc y OK.o.b8).mono ?_);rintro ab w2 ⟨rfl,K2⟩));all_goals
  have K3:=Y (DoD.pre (DoD.pre K2 DD) DV);have B2:=Y (show OT w2 h1 from by
   have⟨S',p',o',r',ah,_,_,hm⟩:=K2.o;exact hm.bx BD NS.2)
  go_wp2_with fail;exact Met.intro (eY (x:=zB) B2 (Y ⟨rfl,K3⟩))
theorem IH{h1 h0:Nat}(O:H_ (PaX P A Q T S v k m j n Z W X U V))(HI:H_ (PaI n c Z l W X U R V))(hc:c+1<=1000000)(OK:H_ (De.ok ⟨x,y,rl,tK⟩))(B0:H_ (OV v h0 x y rl tK))(B1:H_ (OT v h1))(NS:H_ (¬S h0/\¬S h1))(DV:H_ (OS z v))(af:x=1):
 aA Tryz.f92 (λab w'=>ab=Zr #[(),aJ (cX n y)]/\H_ (DoD P S z w' k n (c+1) Z (dh n l y zB) U.back)) 1 ⟨#[(k,0),u,N,(h0,0),(h1,0),Zn,M,L,K,J,I,H,G,F,E,D,C,B,t,s,r,q,p,o,i,h,f,e,d,b,a,aN,br,bL,cE,fK,dC,ed,em,et,ex,eW,fl,gT,iK,jh,jJ,kN,kO,lW,mk,mO,nk,og,oI,en,ql,qB,rt,sd,so,sB,tJ,ve,vJ,dv,vZ,wp,xE,zi,zy,zA,Ab,Ar,Er,Gj,Gq,JE,JF,JL,JU,Kv,KC,LH,LJ,LQ,Ma,Mb,Mn,dw,ME,ee,Nc,Np,ek,NK,NM,NT,NV,Oa,Ov],[]⟩ v:=by
 refine aj rfl ?_;intro ag hK;have z0:=B0.cell 0;have z1:=B0.cell 1;simp only[OB,OA,Oz] at z0 z1;subst af;have⟨v2,l2,ad,_,_⟩:=O.box;have p0:=Bx.cell ad 0;have p1:=Bx.cell ad 1;simp only[OB,OA,Oz] at p0 p1;have DD:=Y (show OS v v.drew from(ce _ _).drew);have XD:=Y (O.later DD);have BD:H_ (OT v.drew h1):=B1.cM;go_upto_region 6 with fail;go_region_with (first|(go_at_call 115;(with_reducible refine(KP XD.o HI.o hc (x:=y)).mono ?_);rintro ab w2 ⟨rfl,K2⟩));all_goals
  have K3:=Y (DoD.pre (DoD.pre K2 DD) DV);have B2:=Y (show OT w2 h1 from by
   have⟨S',p',o',r',ah,_,_,hm⟩:=K2.o;exact hm.bx BD NS.2)
  go_wp2_with fail;exact Met.intro (eY (x:=zB) B2 (Y ⟨rfl,K3⟩))
end
section
open Go.RowKit
def lr(w:W_)(g:Nat)(x:B8):W_:=((((((((w.setCell ⟨g,0,none⟩ (Za x.z0)).setCell ⟨g,1,none⟩ (Za x.z1)).setCell ⟨g,2,none⟩ (Za x.z2)).setCell ⟨g,3,none⟩ (Za x.z3)).setCell ⟨g,4,none⟩ (Za x.z4)).setCell ⟨g,5,none⟩ (Za x.z5)).setCell ⟨g,6,none⟩ (Za x.z6)).setCell ⟨g,7,none⟩ (Za x.z7))
theorem sr(h:Bx v n () U1)(x:B8):Bx (lr v n x) n x U1:=by
 have a:=(Bx.set (Bx.set (Bx.set (Bx.set (Bx.set (Bx.set (Bx.set (Bx.set h 0 (Za x.z0)) 1 (Za x.z1)) 2 (Za x.z2)) 3 (Za x.z3)) 4 (Za x.z4)) 5 (Za x.z5)) 6 (Za x.z6)) 7 (Za x.z7));simp only[sp,Do,Eq] at a;exact a
theorem mi(w:W_)(g:Nat)(x:B8):w.grownBy (lr w g x) (some g):=by
 unfold lr;exact(ak (ak (ak (ak (ak (ak (ak (ak (au _) _ _) _ _) _ _) _ _) _ _) _ _) _ _) _ _)
theorem IE{ai S:Nat->Prop}(T:H_ (PaX O tL Vb ai S v k m j n Z W X U V))(HI:H_ (PaI n c Z l W X U R V))(hc:c+1<=1000000){h0 h1:Nat}(OK:H_ (De.ok ⟨x,y,rl,tK⟩))(B0:H_ (OV v h0 x y rl tK))(B1:H_ (OT v h1))(_:H_ (¬S h0/\¬S h1))(DV:H_ (OS z v))(ag:x=2){A:B8}(hx:H_ (A=gm n l y))(HV:H_ (PaS O S z k n c Z l X U R V))(ah:H_ (z<=h1)):
 aA Tryz.f92 (λab w'=>ab=Zr #[A,aJ (cX n y)]/\H_ (DoD O S z w' k n (c+1) Z l U.back)) 1 ⟨#[(k,0),u,N,(h0,0),(h1,0),Zn,M,L,K,J,I,H,G,F,E,D,C,B,t,s,r,q,p,o,i,h,f,e,d,b,a,aN,br,bL,cE,fK,dC,ed,em,et,ex,eW,fl,gT,iK,jh,jJ,kN,kO,lW,mk,mO,nk,og,oI,en,ql,qB,rt,sd,so,sB,tJ,ve,vJ,dv,vZ,wp,xE,zi,zy,zA,Ab,Ar,Er,Gj,Gq,JE,JF,JL,JU,Kv,KC,LH,LJ,LQ,Ma,Mb,Mn,dw,ME,ee,Nc,Np,ek,NK,NM,NT,NV,Oa,Ov],[]⟩ v:=by
 refine aj rfl ?_;intro am hK;have z0:=B0.cell 0;have z1:=B0.cell 1;simp only[OB,OA,Oz] at z0 z1;subst ag;have⟨v2,l2,ad,_,_⟩:=T.box;have p0:=Bx.cell ad 0;have p1:=Bx.cell ad 1;simp only[OB,OA,Oz] at p0 p1;have DD:=Y (show OS v v.drew from(ce _ _).drew);have XD:=Y (T.later DD);have BD:H_ (OT v.drew h1):=B1.cM;go_upto_region 8 with fail;go_region_with (first|(go_at_call 116;(with_reducible refine(KM XD.o HI.o hx.o).mono ?_);rintro ab Q ⟨rfl,E2⟩;have af:=Y (Bx.later BD E2 (Bx.lt BD));have vv:=jt af;have⟨v0,v1,al,v3,v4,v5,v6,v7,vf⟩:=vv));all_goals
  have ak:=ah.o;have⟨W3,P⟩:=ZX (lr Q h1 A);have B2:H_ (OU W3 h1 A):=(by rw[P];exact sr af A);have G2:H_ (Q.grownBy W3 (some h1)):=(by rw[P];exact mi _ _ _);have F2:=Y (aM (DV.trans ((DD.trans E2).mono DV.size)) G2 ak);unfold lr at P;rw[<-P];go_wp2_with fail;exact Met.intro (eY (x:=A) B2 (Y ⟨rfl,Y (DoD.same HV.o hc F2.o)⟩))
end
section
open Go.RowKit
namespace Mx
def doE(n:Nat)(x:De):Int:=if x.kind=0\/x.kind=1\/x.kind=2 then cX n x.at_ else if 3<=x.kind/\x.kind<=10 then 0 else 3
def doD(n:Nat)(now:List B8)(x:De):B8:=if x.kind=2 then gm n now x.at_ else zB
def doS(ae:List (List B8))(now:List B8)(x:De):List (List B8):=if x.kind=3 then ae++[now] else ae
def doN (n:Nat) (ae:List (List B8)) (now:List B8) (x:De):List B8:=if x.kind=0 then dh n now x.at_ x.d else if x.kind=1 then dh n now x.at_ zB else if x.kind=8 then ae.getD (ae.length-1) [] else now
end Mx
theorem eZ(B:Nat)(w:W_)(c b a:Int)(d:B8)(ad:∀(W:W_) {Z l p u7 E N OX U Q q L Pe R h G Pj Pl Pm Pn Po D Pq Ps o Pv Pw k x Pz K PG y PI z F C PO PQ PR PS PT P PX T M P9 I V Qc Qd Qe Qf Qg Qh Qi J Qk m Qm Qn Qo Qp X Qr r Qt Qu S Qw u v Qz QA QC QE t QG QH n QJ H O QO QP QQ QR Q4 i j Re Rf Rh Ri s Rl Rm OW:V_},H_ (OV W w c b a d)->H_ (OT W (w+1))->H_ (OS w W)->
   aA Tryz.f92 Vc 1 ⟨#[(B,0),Z,l,(w,0),(w.heap.size+1,0),Zn,p,u7,E,N,OX,U,Q,q,L,Pe,R,h,G,Pj,Pl,Pm,Pn,Po,D,Pq,Ps,o,Pv,Pw,k,x,Pz,K,PG,y,PI,z,F,C,PO,PQ,PR,PS,PT,P,PX,T,M,P9,I,V,Qc,Qd,Qe,Qf,Qg,Qh,Qi,J,Qk,m,Qm,Qn,Qo,Qp,X,Qr,r,Qt,Qu,S,Qw,u,v,Qz,QA,QC,QE,t,QG,QH,n,QJ,H,O,QO,QP,QQ,QR,Q4,i,j,Re,Rf,Rh,Ri,s,Rl,Rm,OW],[]⟩ W):
 C_ prog 92 #[(B,0),.agg (Zp c b a d)] w Vc:=by
 have ab:=Y @ad;have⟨W,e⟩:=ZX ((w.alloc (.cells (Zp c b a d) 67)).alloc (.cells () 65));have D0:H_ (OS w W):=(by rw[e];exact(af).alloc (by simp) _);have B0:H_ (OV W w c b a d):=(by rw[e];exact(Bx.new w _ _).alloc _);have A:=Y (show OT W (w+1) by
  rw[e];have f:=Bx.new (w.alloc (.cells (Zp c b a d) 67)) () 65;rw[dl] at f;exact f)
 go_enter func92,ntmps92;change aA Tryz.f92 Vc 0 _ w;refine aj rfl ?_;intro ae hK;go_wp2_with fail;rw[<-e];exact Met.intro (ab W B0 A D0)
theorem zI(H:PaS O tL v k n c Z l X U R V)(hc:c+1<=1000000)(q:De.ok ⟨x,y,rl,tK⟩){m:B8}(p:m=doD n l ⟨x,y,rl,tK⟩):
 C_ prog 92 #[(k,0),.agg (Zp x y rl tK)] v λM K=>M=Zr #[m,aJ (doE n ⟨x,y,rl,tK⟩)]/\H_ (DoD O tL v K k n (c+1) (doS Z l ⟨x,y,rl,tK⟩) (doN n Z l ⟨x,y,rl,tK⟩) U.back):=by
 have L:=H;have⟨ad,Q,S,ab,P,T,j,I⟩:=H;have o:¬tL v/\¬tL (v+1):=⟨λG=>by have:=j.mu.lt _ G;omega,λG=>by have:=j.mu.lt _ G;omega⟩;by_cases r:x=0
 ·have d:doE n ⟨x,y,rl,tK⟩=cX n y:=by unfold doE;simp[r]
  have f:doS Z l ⟨x,y,rl,tK⟩=Z:=by unfold doS;simp[r]
  have h:doN n Z l ⟨x,y,rl,tK⟩=dh n l y tK:=by unfold doN;simp[r]
  have e:m=zB:=by rw[p];unfold doD;simp[r]
  rw[d,f,h];subst e;exact eZ k v x y rl tK (by intro W;intros;rename_i b i a;exact ER (j.later a) (Y I) hc (Y q) b i (Y o) a r)
 by_cases z:x=1
 ·have d:doE n ⟨x,y,rl,tK⟩=cX n y:=by unfold doE;simp[z]
  have f:doS Z l ⟨x,y,rl,tK⟩=Z:=by unfold doS;simp[z]
  have h:doN n Z l ⟨x,y,rl,tK⟩=dh n l y zB:=by unfold doN;simp[z]
  have e:m=zB:=by rw[p];unfold doD;simp[z]
  rw[d,f,h];subst e;exact eZ k v x y rl tK (by intro W;intros;rename_i b i a;exact IH (j.later a) (Y I) hc (Y q) b i (Y o) a z)
 by_cases u:x=2
 ·have d:doE n ⟨x,y,rl,tK⟩=cX n y:=by unfold doE;simp[u]
  have f:doS Z l ⟨x,y,rl,tK⟩=Z:=by unfold doS;simp[u]
  have h:doN n Z l ⟨x,y,rl,tK⟩=l:=by unfold doN;simp[u]
  have e:m=gm n l y:=by rw[p];unfold doD;simp[u]
  rw[d,f,h];exact eZ k v x y rl tK (by intro W;intros;rename_i b i a;exact IE (j.later a) (Y I) hc (Y q) b i (Y o) a u (Y e) (Y L) (Nat.le_succ _))
 by_cases t:x=3
 ·have d:doE n ⟨x,y,rl,tK⟩=0:=by unfold doE;simp[t]
  have f:doS Z l ⟨x,y,rl,tK⟩=Z++[l]:=by unfold doS;simp[t]
  have h:doN n Z l ⟨x,y,rl,tK⟩=l:=by unfold doN;simp[t]
  have e:m=zB:=by rw[p];unfold doD;simp[t]
  rw[d,f,h,aQ];subst e;exact eZ k v x y rl tK (by intro W;intros;rename_i b i a;exact yx (j.later a) (Y I) hc (Y q) b i (Y o) a t)
 by_cases A:x=4
 ·have d:doE n ⟨x,y,rl,tK⟩=0:=by unfold doE;simp[A]
  have f:doS Z l ⟨x,y,rl,tK⟩=Z:=by unfold doS;simp[A]
  have h:doN n Z l ⟨x,y,rl,tK⟩=l:=by unfold doN;simp[A]
  have e:m=zB:=by rw[p];unfold doD;simp[A]
  rw[d,f,h,aQ];subst e;exact eZ k v x y rl tK (by intro W;intros;rename_i b i a;exact IG (j.later a) (Y I) hc (Y q) b i (Y o) a A)
 by_cases B:x=5
 ·have d:doE n ⟨x,y,rl,tK⟩=0:=by unfold doE;simp[B]
  have f:doS Z l ⟨x,y,rl,tK⟩=Z:=by unfold doS;simp[B]
  have h:doN n Z l ⟨x,y,rl,tK⟩=l:=by unfold doN;simp[B]
  have e:m=zB:=by rw[p];unfold doD;simp[B]
  rw[d,f,h,aQ];subst e;exact eZ k v x y rl tK (by intro W;intros;rename_i b i a;exact yy (j.later a) (Y I) hc (Y q) b i (Y o) a B)
 by_cases C:x=6
 ·have d:doE n ⟨x,y,rl,tK⟩=0:=by unfold doE;simp[C]
  have f:doS Z l ⟨x,y,rl,tK⟩=Z:=by unfold doS;simp[C]
  have h:doN n Z l ⟨x,y,rl,tK⟩=l:=by unfold doN;simp[C]
  have e:m=zB:=by rw[p];unfold doD;simp[C]
  rw[d,f,h,aQ];subst e;exact eZ k v x y rl tK (by intro W;intros;rename_i b i a;exact ID (j.later a) (Y I) hc (Y q) b i (Y o) a C)
 by_cases D:x=7
 ·have d:doE n ⟨x,y,rl,tK⟩=0:=by unfold doE;simp[D]
  have f:doS Z l ⟨x,y,rl,tK⟩=Z:=by unfold doS;simp[D]
  have h:doN n Z l ⟨x,y,rl,tK⟩=l:=by unfold doN;simp[D]
  have e:m=zB:=by rw[p];unfold doD;simp[D]
  rw[d,f,h,aQ];subst e;exact eZ k v x y rl tK (by intro W;intros;rename_i b i a;exact Br (j.later a) (Y I) hc (Y q) b i (Y o) a D)
 have⟨J,hbl,_,_,_⟩:=I.last;have N:Z.getD (Z.length-1) []=J:=by rw[I.len,UH,Oy,hbl];rfl
 by_cases s:x=8
 ·have d:doE n ⟨x,y,rl,tK⟩=0:=by unfold doE;simp[s]
  have f:doS Z l ⟨x,y,rl,tK⟩=Z:=by unfold doS;simp[s]
  have h:doN n Z l ⟨x,y,rl,tK⟩=J:=by unfold doN;simp only[s];rw[UX (by decide),UX (by decide),UY trivial];exact N
  have e:m=zB:=by rw[p];unfold doD;simp[s]
  rw[d,f,h,aQ];subst e;exact eZ k v x y rl tK (by intro W;intros;rename_i b i a;exact EM (j.later a) (Y I) hc (Y q) b i (Y o) a s (Y hbl))
 by_cases F:x=9
 ·have d:doE n ⟨x,y,rl,tK⟩=0:=by unfold doE;simp[F]
  have f:doS Z l ⟨x,y,rl,tK⟩=Z:=by unfold doS;simp[F]
  have h:doN n Z l ⟨x,y,rl,tK⟩=l:=by unfold doN;simp[F]
  have e:m=zB:=by rw[p];unfold doD;simp[F]
  rw[d,f,h,aQ];subst e;exact eZ k v x y rl tK (by intro W;intros;rename_i b i a;exact EO (j.later a) (Y I) hc (Y q) b i (Y o) a F)
 by_cases E:x=10
 ·have d:doE n ⟨x,y,rl,tK⟩=0:=by unfold doE;simp[E]
  have f:doS Z l ⟨x,y,rl,tK⟩=Z:=by unfold doS;simp[E]
  have h:doN n Z l ⟨x,y,rl,tK⟩=l:=by unfold doN;simp[E]
  have e:m=zB:=by rw[p];unfold doD;simp[E]
  rw[d,f,h,aQ];subst e;exact eZ k v x y rl tK (by intro W;intros;rename_i b i a;exact Bt (j.later a) (Y I) hc (Y q) b i (Y o) a E)
 have d:doE n ⟨x,y,rl,tK⟩=3:=by
  unfold doE;simp only;rw[UX (by omega),UX (by omega)]
 have f:doS Z l ⟨x,y,rl,tK⟩=Z:=by unfold doS;simp[t]
 have h:doN n Z l ⟨x,y,rl,tK⟩=l:=by unfold doN;simp[r,z,s]
 have e:m=zB:=by rw[p];unfold doD;simp[u]
 rw[d,f,h];subst e;exact eZ k v x y rl tK (by intro W;intros;rename_i b i a;exact EP (j.later a) (Y I) hc (Y q) b i (Y o) a (⟨r,z,u,t,A,B,C,D,s,F,E⟩))
end
section
open Go.RowKit
def eI(n:Int)(m:Nat):Int:=if n<1\/32<n then 1 else if 300<m then 2 else 0
theorem pw(c:Option A_)(d:Nat)(w:W_)(h:eI x m≠0):
 C_ prog 91 #[x,(c,m,d)] w λe f=>e=Zr #[.pointer none,Zf (eI x m)]/\f=w:=by
 by_cases h1:x<1
 ·have a:eI x m=1:=by unfold eI;rw[UY (.inl h1)]
  rw[a];clear h a;go_enter func91,ntmps91;go_wp2_with fail;exact UM (by simp[results,results91,go_sem]) rfl ⟨rfl,rfl⟩
 ·by_cases h2:32<x
  ·have a:eI x m=1:=by unfold eI;rw[UY (.inr h2)]
   rw[a];clear h a;go_enter func91,ntmps91;go_wp2_with fail;exact UM (by simp[results,results91,go_sem]) rfl ⟨rfl,rfl⟩
  ·by_cases b:300<m
   ·have a:eI x m=2:=by unfold eI;rw[UX (by omega),UY b]
    rw[a];have i:(300:Int)<(m:Int):=by omega
    clear h a;go_enter func91,ntmps91;go_wp2_with fail;exact UM (by simp[results,results91,go_sem]) rfl ⟨rfl,rfl⟩
   ·exact absurd (by unfold eI;rw[UX (by omega),UX b]) h
theorem rE(V:Option A_)(R:Nat)(w:W_)(h1:1<=n)(h2:n<=32)(h3:m<=300):
 C_ prog 91 #[n,(V,m,R)] w λk u=>∃B,k=Zr #[.pointer (some ⟨B,0,none⟩),Zn]/\H_ (∃S U Q M,PaS (λ_=>False) S u B n 1 [List.replicate n zB] (List.replicate n zB) U Q M []/\(∀x,S x->w.heap.size<=x))/\H_ (OS w u):=by
 have ai:¬(n:Int)<1:=by omega
 have aj:¬(32:Int)<(n:Int):=by omega
 have ah:¬(300:Int)<(m:Int):=by omega
 go_enter func91,ntmps91;go_wp2_with fail;refine(ux (Mut.none w) h1 h2).mono ?_;rintro k A ⟨P,rfl,G,p⟩;have⟨c,D,H,p1⟩:=G.o;have z:=Y H;have K:=Y p1;have T:=Y D;clear H p1 D G;go_wp2_with fail;refine(wJ z h1 h2).mono ?_;rintro k e ⟨O,rfl,t,f⟩;have⟨d,F,s,o2⟩:=t.o;have C:=Y s;have I:=Y o2;have o:=Y F;clear s o2 F t;have⟨W3,l⟩:=ZX (e.alloc (.cells #[(P,0),(O,0),Zs] 208));have⟨B,j⟩:=ZX e.heap.size;have i:=beA l;have y:H_ (Bx W3 B #[(P,0),(O,0),Zs] 208):=(by rw[l,j];exact Bx.new e _ _);go_wp2_with fail;rw[<-l,<-j];refine UM (v:=.tuple #[.pointer (some ⟨B,0,none⟩),.nilIface]) (by simp[results,Tryz.results91,go_sem]) rfl ⟨B,rfl,Y ⟨λb=>((False∨c b)∨d b)∨b=B,⟨0,1,0,false,0,0,[],[]⟩,⟨0,0,true,2147483647,[],[]⟩,⟨0,[],0,0,0,[],[]⟩,⟨c,d,λb=>b=B,P,O,⟨0,[],[],false⟩,?_,EJ h1 h2⟩,?_⟩,Y (p.o.trans ((f.o.trans (i.o.mono f.o.size)).mono p.o.size))⟩
 ·have r:∀x,c x->x<A.heap.size:=λx a=>z.lt x (.inr a)
  have W:∀x,d x->x<e.heap.size:=λx a=>C.lt x (.inr a)
  have J:=f.size;have ad:=j.o;have L:=(C.later i).add y (eA rfl);have ae:Wd (λb=>False\/c b) (λb=>(False\/c b)\/d b) A:=λx a hs=>by
   rcases hs with hs|hs
   ·exact hs
   ·have:=o x hs;omega
  have q:Wd (λb=>(False\/c b)\/d b) (λb=>((False\/c b)\/d b)\/b=B) e:=λx a hs=>by
   rcases hs with hs|hs
   ·exact hs
   ·omega
  have N:PrW c (λb=>(False\/c b)\/d b) e P n [List.replicate n zB] ⟨0,[],[],false⟩ ⟨0,1,0,false,0,0,[],[]⟩:=(K.wd ae (λx a=>.inl (.inr a))).later f;exact⟨L,(N.wd q (λx a=>.inl (.inl (.inr a)))).later i,(I.wd q (λx a=>.inl (.inr a))).later i,
   ⟨_,[],y,dr.nil _,rfl,λak hk=>(by cases hk),λx a=>.inr a,rfl,ol _,λag x lt ab=>by simp at ab⟩,
   λx a h=>by have E:=r x a;have h9:=o x h;omega,λx a h=>by have E:=r x a;have:x=B:=h;omega,λx a h=>by have E:=W x a;have:x=B:=h;omega,λx a=>a.elim⟩
 ·intro x a;have af:=p.size;have J:=f.size;have ad:=j.o;rcases a with ((a|a)|a)|a
  ·exact a.elim
  ·exact T x a
  ·have:=o x a;omega
  ·omega
