import Derived.Test.YtgklbhiamepfoaaGreatDoorZ34
set_option maxHeartbeats 16000000
set_option maxRecDepth 100000
namespace Go.Proofs.YtgklbhiamepfoaaGreatDoor
open Go renaming World->W_,Value->V_,Calls->C_,Addr->A_
open Go.RowKit renaming Hid->H_
open Go.Proofs.Tryz Mx
variable {m c j i h:Nat}{Z J:List De}{v u:W_}{X I:ByteArray}{a q p:Option A_}{V K G F E D C B A s r o e:V_}{l M:List B8}{x y z t:Int}{d:B8}{W S:TypeId}{U:De}{T H:Obj}{R:Array V_}{Q:Ending}{P:Pt}{O:Pk}{N:List ByteArray}{L:List Pk}
open Go.RowKit
section
variable {w:W_}{g n:Nat}
def DoP(w:W_)(g n:Nat)(out:Mx.Tx)(ds:List De)(y:De)(E:Int)(e:Ending)(w':W_):Prop:=
 ∃(x:B8) (hv sf bk:Int) (oa:Option A_) (on oc:Nat),e=.returned (.tuple #[.agg #[.int .i64 0,.int .u8 x.z0,.int .u8 x.z1,.int .u8 x.z2,.int .u8 x.z3,.int .u8 x.z4,.int .u8 x.z5,.int .u8 x.z6,.int .u8 x.z7,.int .i64 hv,.int .i64 sf,.int .i64 bk,.slice oa on oc],aJ E])/\(E=0->hv=(Mx.hv n (ds++[y]):Nat)/\x=Mx.doD n (Mx.aC n ds).2 y)/\Dsk w' g out n (Mx.aS n ds y).ds/\Fd g w w'
theorem DX.Gj{z:Tx}(h:DX w g q V n a m c z Z)(o:w.grownBy v (some j))(d:Bx w j R 95):DX v g q V n a m c z Z:=by
 have s:∀k,k≠j->k<w.heap.size->v.heap[k]?=w.heap[k]?:=λk H F=>o.block k F (λe=>H (OG e))
 have I:g≠j:=λe=>by have h1:=h.bx;rw[e] at h1;unfold Bx at h1 d;rw[d] at h1;cases h1
 have⟨⟨h1,h2,K⟩,D,G⟩:=h.sc;refine⟨(s g I h.bx.lt).trans h.bx,h.pn,World.ownsRow.kept h.row o (.inr (λe=>?_)),⟨⟨h1,h2,λh0=>?_⟩,λh0=>?_,G⟩,h.mc,h.nb⟩
 ·rcases h.row.2 with ⟨r,_⟩|⟨i,N,O,r,_,A,_⟩
  ·rw[r] at e;cases e
  ·rw[r] at e;cases e;unfold Bx at d;rw[d] at A;cases A
 ·have⟨i,off,C,t,hc⟩:=K h0;have⟨p,B,x,l,b⟩:=D h0;rw[C] at l;cases l;exact⟨i,off,C,OE t o.size,λu M J y E L=>(ii (a:=⟨i,off+u*11+y,none⟩) (s i (λe=>by rw[show({block:=i,off:=off}:A_).block=j from e] at b;unfold Bx at d;rw[d] at b;cases b) t)).trans (hc u M J y E L)⟩
 ·have⟨p,B,x,l,b⟩:=D h0;exact⟨p,B,x,l,(s p.block (λe=>by rw[e] at b;unfold Bx at d;rw[d] at b;cases b) (co.1 b).1).trans b⟩
theorem Fd.Gj(h:Fd g w v)(a:v.grownBy u (some m))(d:w<=m):Fd g w u:=
 ⟨⟨OP h.size a.size,λc b hs=>(a.block c (OE b h.size) (λe=>by have:=OG e;omega)).trans (h.block c b hs)⟩,a.os.trans h.os,a.tape.trans h.tape,a.output.trans h.output⟩
theorem KT{aj:Tx}(ai:Dsk w g aj n Z)(n1:1<=n)(n2:n<=32)(hm:Z.length<=300)(hG:Gv w)(hx:De.ok ⟨x,t,y,d⟩)(hE:z=(aS n Z ⟨x,t,y,d⟩).e):
 C_ prog 48 #[(g,0),.agg (Zp x t y d)] w λu w'=>H_ (DoP w g n aj Z ⟨x,t,y,d⟩ z u w'):=by
 have⟨pa,bv,aR,m,aI,ai⟩:=ai;have ar:Z.length=m:=ai.sc.1.1;rw[ar] at hm;have ah:=Y ar;clear ar;have⟨ap,hW⟩:=ZX ((w.alloc (.cells (Zp x t y d) 67)).alloc (.cells Zo 95));have⟨r,hr⟩:=ZX (w.heap.size+1);have D1:H_ (Below (w+1) (w.alloc (.cells (Zp x t y d) 67)) ap):=(by rw[hW];exact(ce _ _).alloc (by simp) _);have R0:H_ (Bx ap r Zo 95):=(by rw[hW,hr,show w.heap.size+1=(w.alloc (.cells #[x,t,y,.int .u8 d.z0,.int .u8 d.z1,.int .u8 d.z2,.int .u8 d.z3,.int .u8 d.z4,.int .u8 d.z5,.int .u8 d.z6,.int .u8 d.z7] 67)).heap.size by simp];exact Bx.new _ _ _);have p:=Y (show OV ap w x t y d from(D1.block _ (by omega)).trans (Bx.new w _ _));have D0:H_ (OS w ap):=(by rw[hW];exact(af).alloc (by simp) _);have ay:=Y (ai.later D0);have a1:¬(n:Int)=0:=by omega
 have c2:=ay.bx.cell 2;simp only[OB,OA,Oz] at c2;have y0:=p.cell 0;have y1:=p.cell 1;have y2:=p.cell 2;have y3:=p.cell 3;have y4:=p.cell 4;have y5:=p.cell 5;have y6:=p.cell 6;have y7:=p.cell 7;have y8:=p.cell 8;have y9:=p.cell 9;have ak:=p.cell 10;simp only[OB,OA,Oz] at y0 y1 y2 y3 y4 y5 y6 y7 y8 y9 ak;have HW:=Y (xO ay hx hm);have GW:=Y (hG.later D0 hG.2.2.2);have aB:=Y ai;clear ai hG;go_enter func48,ntmps48;go_upto_region 1 with fail;rw[<-hW,<-hr];go_wp2_with fail;refine HW.mono ?_;clear HW y0 y1 y2 y3 y4 y5 y6 y7 y8 y9 ak;rintro u w1 ⟨ad,c',rfl,S1,B1,C1⟩;have H1:=Y (ay.later B1);have G1:=Y (GW.later B1 GW.2.2.2);have e:=Y (R0.later B1 R0.lt);have d2:=H1.bx.cell 2;simp only[OB,OA,Oz] at d2;have F1:=Y (D0.t B1);clear c2 GW;by_cases h3:m=300
 ·have q:=Y (show z=2/\(aS n Z ⟨x,t,y,d⟩).ds=Z by
   rw[hE];unfold aS;rw[UX (by omega),UY (by rw[ah];omega)];exact⟨rfl,rfl⟩)
  have HP:=Y (show eI (n:Int) (m+1)=2 by unfold eI;rw[UX (by omega),UY (by omega)]);have HR:=Y (Lf (x:=(n:Int)) (a:=some ad) (m:=m+1) (c:=c') (v:=w1) (by rw[HP];decide));clear h3 hE;have rz:=e.frozen;have Q:=e.cell 0;have H:=e.cell 1;have V:=e.cell 2;have I:=e.cell 3;have U:=e.cell 4;have D:=e.cell 5;have F:=e.cell 6;have r7:=e.cell 7;have r8:=e.cell 8;have N:=e.cell 9;have C:=e.cell 10;have L:=e.cell 11;have S:=e.cell 12;simp only[OB,OA,Oz] at Q H V I U D F r7 r8 N C L S;have⟨W2,au⟩:=ZX (rs w1 r zB 0 0 0 Zs);have l:H_ (Bx W2 r Zo 95):=(by rw[au];exact uP e rfl zB 0 0 0);have D2:=Y (show OS w W2 by rw[au];exact aM F1 (mY) (by rw[hr];omega));have H2:=Y (show Dsk w g aj n Z from⟨_,_,_,_,_,aB⟩);go_wp2_with fail;refine HR.mono ?_;rintro u w2 ⟨rfl,rfl⟩;rw[HP];go_wp2;change bodyPost prog Tryz.f48 _ _ _ (rs w2 r zB 0 0 0 Zs);rw[<-au];clear Q H V I U D F r7 r8 N C L S;have s0:=l.cell 0;have X:=l.cell 1;have s2:=l.cell 2;have K:=l.cell 3;have E:=l.cell 4;have R:=l.cell 5;have P:=l.cell 6;have T:=l.cell 7;have M:=l.cell 8;have O:=l.cell 9;have G:=l.cell 10;have W:=l.cell 11;have J:=l.cell 12;simp only[OB,OA,Oz] at s0 X s2 K E R P T M O G W J;exact UM (by simp[results,results48,go_sem,s0,X,s2,K,E,R,P,T,M,O,G,W,J];rfl) rfl (⟨zB,0,0,0,none,0,0,by rw[q.1];rfl,(λu=>by rw[q.1] at u;cases u),by rw[q.2];exact H2.later D2,Fd.of D2⟩)
 ·have aV:m+1<=300:=by omega
  have HR:=Y (MY (c:=c') n1 n2 aV S1.1 G1.1);go_wp2_with fail;refine HR.mono ?_;clear HR;rintro u w2 ⟨a',c2,aW,rfl,aL,B2⟩;have⟨⟨aX,hbl,aG⟩,aE⟩:=aL.o;obtain⟨rp,av⟩:∃rp,aW[m]?=some rp:=⟨_,Ox (by omega)⟩;obtain⟨b,off,rfl,aP,hc⟩:=aG (by omega);have j:=hc m rp av;have aq:=aE.1 m rp av;have⟨e0,a,hv,A,s,ab,bl⟩:=rp;have HD:=Y (show(Z++[⟨x,t,y,d⟩])[m]?=some ⟨x,t,y,d⟩/\(Z++[(⟨x,t,y,d⟩:De)]).take m=Z/\(Z++[(⟨x,t,y,d⟩:De)]).take (m+1)=Z++[⟨x,t,y,d⟩] by
   refine⟨?_,?_,?_⟩
   ·rw[ON (by rw[ah];exact OJ _),ah,TK];rfl
   ·rw[<-ah];simp
   ·exact OL (by simp[ah.o]))
  have⟨aZ,hy,aF,ax⟩:=aq.x;have az:=aq.len;rw[HD.1] at hy;cases hy
  rw[HD.2.1] at ax;rw[HD.2.2] at az;have HV:=Y (show(hv:Int)=(Mx.hv n (Z++[⟨x,t,y,d⟩]):Nat)/\a=Mx.doD n (Mx.aC n Z).2 ⟨x,t,y,d⟩ from⟨by unfold Mx.hv;rw[az];simp,ax⟩);have q:=Y (show e0=z/\(aS n Z ⟨x,t,y,d⟩).ds=if e0=0 then Z++[⟨x,t,y,d⟩] else Z by
   have h9:e0=doE n ⟨x,t,y,d⟩:=aF;rw[hE,h9];unfold aS;rw[UX (by omega),UX (by rw[ah];omega)];by_cases B:doE n ⟨x,t,y,d⟩=0
   ·rw[UX (by simpa using B),UY B,B];exact⟨rfl,rfl⟩
   ·rw[UY B,UX B];exact⟨rfl,rfl⟩)
  have q0:=j 0 _ rfl;have q1:=j 1 _ rfl;have q2:=j 2 _ rfl;have q3:=j 3 _ rfl;have q4:=j 4 _ rfl;have q5:=j 5 _ rfl;have q6:=j 6 _ rfl;have q7:=j 7 _ rfl;have q8:=j 8 _ rfl;have q9:=j 9 _ rfl;have aN:=j 10 _ rfl;have aT:=j 11 _ rfl;have aO:=j 12 _ rfl;simp only[wn] at q0;have a2:=Y (TH aP ah);have⟨W3,aw⟩:=ZX (w2.alloc (.cells #[e0,Za a.z0,Za a.z1,Za a.z2,Za a.z3,Za a.z4,Za a.z5,Za a.z6,Za a.z7,hv,A,s,(ab,n,n)] 95));have⟨ae,B⟩:=ZX w2;have X3:H_ (Bx W3 ae #[e0,Za a.z0,Za a.z1,Za a.z2,Za a.z3,Za a.z4,Za a.z5,Za a.z6,Za a.z7,hv,A,s,(ab,n,n)] 95):=(by rw[aw,B];exact Bx.new w2 _ _);have D3:H_ (OS w1 W3):=(by rw[aw];exact B2.alloc B2.size _);have F3:=Y (F1.t D3);have i:=Y (e.later D3 e.lt);have H3:=Y (H1.later D3);have S3:=Y (S1.fr (Fd.of (g:=g) D3) H1.bx);have aK:H_ (r<ae/\g<w):=(by rw[B];exact⟨OE e.lt B2.size,aB.bx.lt⟩);clear aX hbl aG aE av aq az aF ax hE aL hc j h3 d2;go_upto_region 7 with fail;go_upto_region 8 with fail;rw[<-aw,<-B];clear q0 q1 q2 q3 q4 q5 q6 q7 q8 q9 aN aT aO;by_cases h0:e0=0
  ·subst h0;have am:=Y (show z=0/\(aS n Z ⟨x,t,y,d⟩).ds=Z++[⟨x,t,y,d⟩] from⟨q.1.symm,by rw[q.2,UY rfl]⟩);have HS:=Y (H3.script S3 C1);have c3:=H3.bx.cell 3;simp only[OB,OA,Oz] at c3;have gz:=H3.bx.frozen;have⟨W4,ao⟩:=ZX (W3.setCell (g,3) (ad,m+1,c'));have aA:=Y (show ae≠g/\r≠g/\ae≠r by have:=aK.o;have:=hr.o;omega);have o:H_ (Bx W4 ae #[Zi,Za a.z0,Za a.z1,Za a.z2,Za a.z3,Za a.z4,Za a.z5,Za a.z6,Za a.z7,hv,A,s,(ab,n,n)] 95):=(by rw[ao];exact X3.other _ _ aA.1);have h:H_ (Bx W4 r Zo 95):=(by rw[ao];exact i.other _ _ aA.2.1);rw[<-ao] at HS;have al:=X3.cell 0;simp only[OB,Oz] at al;go_upto_region 11 with fail;rw[<-ao];clear c3 gz al;have rz:=h.frozen;have Q:=h.cell 0;have H:=h.cell 1;have V:=h.cell 2;have I:=h.cell 3;have U:=h.cell 4;have D:=h.cell 5;have F:=h.cell 6;have r7:=h.cell 7;have r8:=h.cell 8;have N:=h.cell 9;have C:=h.cell 10;have L:=h.cell 11;have S:=h.cell 12;simp only[OB,OA,Oz] at Q H V I U D F r7 r8 N C L S;have⟨W5,ag⟩:=ZX (rs W4 r a hv A s (ab,n,n));have c:H_ (Bx W5 r #[Zi,Za a.z0,Za a.z1,Za a.z2,Za a.z3,Za a.z4,Za a.z5,Za a.z6,Za a.z7,hv,A,s,(ab,n,n)] 95):=(by rw[ag];exact uP h rfl a hv A s);have G5:H_ (W4.grownBy W5 (some r)):=(by rw[ag];exact mY);have F4:=Y (show Fd g w W4 from(Fd.of F3).trans HS.2);have aQ:¬ae=r:=aA.2.2;have y0:=o.cell 0;have y1:=o.cell 1;have y2:=o.cell 2;have y3:=o.cell 3;have y4:=o.cell 4;have y5:=o.cell 5;have y6:=o.cell 6;have y7:=o.cell 7;have y8:=o.cell 8;have y9:=o.cell 9;have ak:=o.cell 10;have aH:=o.cell 11;have aD:=o.cell 12;simp only[OB,OA,Oz] at y0 y1 y2 y3 y4 y5 y6 y7 y8 y9 ak aH aD;go_wp2;change bodyPost prog Tryz.f48 _ _ _ (rs W4 r a hv A s (ab,n,n));rw[<-ag];clear Q H V I U D F r7 r8 N C L S y0 y1 y2 y3 y4 y5 y6 y7 y8 y9 ak aH aD;have s0:=c.cell 0;have X:=c.cell 1;have s2:=c.cell 2;have K:=c.cell 3;have E:=c.cell 4;have R:=c.cell 5;have P:=c.cell 6;have T:=c.cell 7;have M:=c.cell 8;have O:=c.cell 9;have G:=c.cell 10;have W:=c.cell 11;have J:=c.cell 12;simp only[OB,OA,Oz] at s0 X s2 K E R P T M O G W J;have HF:=Y (show DoP w g n aj Z ⟨x,t,y,d⟩ z (Zr #[.agg #[Zi,Za a.z0,Za a.z1,Za a.z2,Za a.z3,Za a.z4,Za a.z5,Za a.z6,Za a.z7,hv,A,s,(ab,n,n)],Zn]) W5 from
    ⟨a,hv,A,s,some ⟨ab,0,none⟩,n,n,by rw[am.1];rfl,(λ_=>HV),by rw[am.2];exact⟨_,_,_,_,_,HS.1.Gj G5 h⟩,F4.Gj G5 (by rw[hr];omega)⟩)
   exact UM (by simp[results,results48,go_sem,s0,X,s2,K,E,R,P,T,M,O,G,W,J]) rfl HF
  ·have am:=Y (show(aS n Z ⟨x,t,y,d⟩).ds=Z by rw[q.2,UX h0]);have an:¬z=0:=by rw[<-q.1];exact h0
   have aU:=Y (show aJ z=Zf e0 by unfold aJ;rw[UX an,q.1]);have H2:=Y (show Dsk w g aj n Z from⟨_,_,_,_,_,aB⟩);have al:=X3.cell 0;simp only[OB,Oz] at al;have aQ:¬ae=r:=by have:=aK.o;omega
   have⟨W5,ag⟩:=ZX ((rs W3 r zB 0 0 0 Zs).drew);have c:H_ (Bx W5 r Zo 95):=(by rw[ag];exact Bx.cM (uP i rfl zB 0 0 0));have D5:=Y (show OS w W5 by rw[ag];exact(aM F3 (mY) (by rw[hr];omega)).drew);have HF:=Y (show DoP w g n aj Z ⟨x,t,y,d⟩ z (Zr #[.agg Zo,Zf e0]) W5 from
    ⟨zB,0,0,0,none,0,0,by rw[aU];rfl,(λu=>absurd u an),by rw[am];exact H2.later D5,Fd.of D5⟩)
   have a0:=Y an;clear an;go_upto_region 9 with fail;have rz:=i.frozen;have Q:=i.cell 0;have H:=i.cell 1;have V:=i.cell 2;have I:=i.cell 3;have U:=i.cell 4;have D:=i.cell 5;have F:=i.cell 6;have r7:=i.cell 7;have r8:=i.cell 8;have N:=i.cell 9;have C:=i.cell 10;have L:=i.cell 11;have S:=i.cell 12;simp only[OB,OA,Oz] at Q H V I U D F r7 r8 N C L S;go_region;all_goals
    go_wp2;change bodyPost prog Tryz.f48 _ _ _ (rs W3 r zB 0 0 0 Zs).drew;rw[<-ag];clear Q H V I U D F r7 r8 N C L S al;have s0:=c.cell 0;have X:=c.cell 1;have s2:=c.cell 2;have K:=c.cell 3;have E:=c.cell 4;have R:=c.cell 5;have P:=c.cell 6;have T:=c.cell 7;have M:=c.cell 8;have O:=c.cell 9;have G:=c.cell 10;have W:=c.cell 11;have J:=c.cell 12;simp only[OB,OA,Oz] at s0 X s2 K E R P T M O G W J;exact UM (by simp[results,results48,go_sem,s0,X,s2,K,E,R,P,T,M,O,G,W,J]) rfl HF
end
section
variable {w:W_}{g n:Nat}
theorem zM{c:Tx}(h:Dsk w g c n Z)(l:n<=32)(o:Z.length<=300)(j:Gv w)(m:De.ok ⟨x,t,y,d⟩)(b:z=(aS n Z ⟨x,t,y,d⟩).e):
 C_ prog 48 #[(g,0),.agg (Zp x t y d)] w λe i=>H_ (DoP w g n c Z ⟨x,t,y,d⟩ z e i):=by
 by_cases h0:n=0
 ·subst h0;have a:z=5/\(aS 0 Z ⟨x,t,y,d⟩).ds=Z:=by rw[b];exact⟨rfl,rfl⟩
  exact(IU h (x:=x) (y:=t) (z:=y) (d:=d)).mono (by
   rintro e i ⟨rfl,D⟩;exact Y ⟨zB,0,0,0,none,0,0,by rw[a.1];rfl,(λe=>by rw[a.1] at e;cases e),by rw[a.2];exact h.later D,Fd.of D⟩)
 ·exact KT h (by omega) l o j m b
theorem xC(n:Nat):∀(a:List De) (st:List (List B8)×List B8),(a.foldl (dL n) st).1.length<=st.1.length+a.length
 |[],st=>OJ _
 |x::r,st=>by
  have h:=xC n r (dL n st x);have h2:(dL n st x).1.length<=st.1.length+1:=by unfold dL doS;split<;>simp
  simp only[RK,fd];omega
theorem kR(n:Nat)(a:List De):hv n a<=a.length:=by
 have h:=xC n a ([List.replicate n zB],List.replicate n zB);unfold hv aC;simp only[fd,ut] at h;omega
def CmP(w:W_)(g:Nat)(out:Tx)(o:Out)(e:Ending)(w':W_):Prop:=e=Zr #[.string ⟨o.t.toArray⟩,aJ o.e]/\Dsk w' g out o.n o.ds/\Fd g w w'
theorem ki(h:x≠0):aJ x=Zf x:=by unfold aJ;rw[UX h]
theorem C3:(aS m Z U).n=m:=by unfold aS;split<;>(try rfl);split<;>(try rfl);split<;>rfl
theorem iD{V:Tx}(r:Dsk w g V n Z)(n2:n<=32)(hm:Z.length<=300)(p:Gv w)(h7:7<=g)(hx:De.ok ⟨x,t,y,d⟩)(P:x≠2):
 C_ prog 46 #[(g,0),.agg (Zp x t y d)] w λo w'=>H_ (CmP w g V (aS n Z ⟨x,t,y,d⟩) o w'):=by
 have⟨ad,q⟩:=ZX (w.alloc (.cells (Zp x t y d) 67));have b:=bxA q;have j:=beA q;have O:=Y (p.later j p.2.2.2);have⟨X,i⟩:=ZX ((aS n Z ⟨x,t,y,d⟩).e);have W:=Y (zM (r.later j) n2 hm O hx i);have ae:H_ (g<ad):=(by have⟨_,_,_,_,_,a⟩:=r;exact OE a.bx.lt j.size);have K:=b.cell 0;have Q:=b.cell 1;have D:=b.cell 2;have G:=b.cell 3;have L:=b.cell 4;have N:=b.cell 5;have y6:=b.cell 6;have H:=b.cell 7;have M:=b.cell 8;have S:=b.cell 9;have ab:=b.cell 10;simp only[OB,OA,Oz] at K Q D G L N y6 H M S ab;have HK:=Y P;clear r p P;go_enter func46,ntmps46;go_upto_region 1 with fail;rw[<-q];go_wp2_with fail;refine W.mono ?_;rintro o w1 A;obtain⟨c,e,sf,bk,oa,on,oc,rfl,R,F,I⟩:=A.o;have E:=Y R;have H2:=Y F;have J:=Y I;have B:=Y (O.later (J.below (TP ae)) h7);clear A R F I W K Q D G L N y6 H M S ab;have⟨W2,h⟩:=ZX (w1.alloc (.cells #[Zi,Za c.z0,Za c.z1,Za c.z2,Za c.z3,Za c.z4,Za c.z5,Za c.z6,Za c.z7,e,sf,bk,(oa,on,oc)] 95));have R2:=bxA h;have l:=beA h;have T:=Y (show Fd g w W2 from((Fd.of j).trans J).trans (Fd.of l));have G2:=Y (B.later l B.2.2.2);have U:=Y (H2.later l);by_cases h0:X=0
 ·have s:=Y (show aS n Z ⟨x,t,y,d⟩=⟨0,Lib.itoa e,n,(aS n Z ⟨x,t,y,d⟩).ds⟩ by
   have a:=i.o;rw[h0] at a;have⟨m,_⟩:=E h0;rw[m];unfold aS at a ⊢;split at a
   ·cases a
   ·split at a
    ·cases a
    ·split at a
     ·exact absurd a.symm (by assumption)
     ·rw[UX (by assumption),UX (by assumption),UX (by assumption),UX HK.o])
  have C:=Y (show InR e by
   have⟨m,_⟩:=E h0;have a:=kR n (Z++[⟨x,t,y,d⟩]);rw[OC] at a;simp only[fd,ut] at a;rw[m];exact⟨by omega,by omega⟩)
  subst h0;rw[show aJ 0=.nilIface from rfl];have c9:=R2.cell 9;simp only[OB,OA,Oz] at c9;have HI:=Y (mG G2 C.lo C.hi);go_upto_region 4 with fail;rw[<-h];go_wp2_with fail;refine HI.mono ?_;rintro o w4 ⟨rfl,u⟩;go_wp2;refine UM (v:=.tuple #[.string ⟨(Lib.itoa e).toArray⟩,Zn]) (by simp[results,results46,go_sem]) rfl (Y ?_);rw[s];exact⟨rfl,U.later u,T.trans (Fd.of u)⟩
 ·have s:=Y (vD (x:=⟨x,t,y,d⟩) (by rw[<-i];exact h0));rw[ki h0];go_upto_region 2 with fail;rw[<-h];go_wp2;refine UM (v:=.tuple #[.string ⟨#[]⟩,Zf X]) (by simp[results,results46,go_sem]) rfl (Y ?_);unfold CmP;rw[<-i,ki h0,s.2.2,C3];exact⟨rfl,U,T⟩
end
section
variable {w:W_}{g n:Nat}
theorem bW:by8 zB:=by unfold by8 zB;simp
theorem De.okN(k:Int)(v:Nat)(a:v<1000000)(d:B8)(hd:by8 d):De.ok ⟨k,(v:Int),0,d⟩:=⟨by show(-9223372036854775808:Int)<=v;omega,by show(v:Int)<=9223372036854775807;omega,by show(-9223372036854775808:Int)<=0;omega,by show(0:Int)<=9223372036854775807;omega,hd⟩
theorem zG:∀(s:Tx) (x v:Nat),jf x s=v->v<(x+1)*10^s.length
 |[],x,v,h=>by cases h;simp
 |c::r,x,v,h=>by
  rw[jf] at h;split at h
  ·have a:=zG r _ v h
   rename_i hc;rw[fd,T5];refine OE a ?_;rw[Nat.mul_comm (10^r.length) 10,<-Nat.mul_assoc];exact Nat.mul_le_mul_right _ (by omega)
  ·cases h
theorem gh(s:Tx):bZ s<1000000:=by
 unfold bZ;cases h:num s with
 |none=>simp
 |some v=>
  show v<1000000;unfold num at h;split at h
  ·cases h
  ·rename_i a;have b:=zG s 0 v h;have:10^s.length<=10^6:=TD (by decide) (by omega);omega
theorem eR{s:Tx}(h:¬cr s=0):num s=none/\cr s=3/\bZ s=0:=by
 unfold cr bZ at*;cases h2:num s with
 |none=>simp
 |some v=>rw[h2] at h;simp at h
theorem eX{s:Tx}(h:cr s=0):num s=some (bZ s):=by
 unfold cr bZ at*;cases h2:num s with
 |none=>rw[h2] at h;simp at h
 |some v=>rfl
structure Rdy (w:W_) (g n:Nat) (out:Mx.Tx) (ds:List De):Prop where
 dsk:Dsk w g out n ds
 n2:n<=32
 m:ds.length<=300
 gv:Gv w
 g7:7<=g
theorem Rdy.later{w w':W_}{g n:Nat}{c:Tx}{b:List De}(h:Rdy w g n c b)(a:OS w w'):Rdy w' g n c b:=⟨h.dsk.later a,h.n2,h.m,h.gv.later a h.gv.2.2.2,h.g7⟩
theorem CmP.after{a:Tx}{o:Out}(h:CmP v g a o Q u)(b:OS w v):CmP w g a o Q u:=⟨h.1,h.2.1,(Fd.of b).trans h.2.2⟩
theorem jq{m:Tx}(i:Rdy w g n m Z)(k:Int)(j:k≠2)(s:ByteArray):
 C_ prog 47 #[(g,0),k,.string s] w λh z=>H_ (CmP w g m (aT n Z k (tx s)) h z):=by
 have H:=Y i;have r:=Y j;have q:=Y (mV s w);clear i j;go_enter func47,ntmps47;go_wp2_with fail;refine q.mono ?_;rintro h C ⟨rfl,c⟩;have⟨V,e⟩:=ZX (bZ (tx s));rw[<-e];by_cases h0:cr (tx s)=0
 ·rw[show aJ (cr (tx s))=.nilIface by rw[h0];rfl];have b:=Y (show aT n Z k (tx s)=aS n Z ⟨k,(V:Int),0,zB⟩ by unfold aT;rw[eX h0,<-e]);have a:=H.later c;have l:=Y (iD a.dsk a.n2 a.m a.gv a.g7 (De.okN k V (by rw[e];exact gh _) zB bW) r);obtain⟨o,u⟩:∃o,H_ (o=aS n Z ⟨k,(V:Int),0,zB⟩):=⟨_,rfl⟩;rw[<-u] at l b;clear h0 a;go_wp2_with fail;refine l.mono ?_;rintro h B P;obtain⟨rfl,p⟩:=P.after c;have A:=Y p;clear p P;go_wp2;exact UM (v:=.tuple #[.string ⟨o.t.toArray⟩,aJ o.e]) (by simp[results,results47,go_sem]) rfl (Y (by rw[b];exact⟨rfl,A⟩))
 ·have b:=Y (show aT n Z k (tx s)=⟨3,[],n,Z⟩ by unfold aT;rw[(eR h0).1]);rw[show aJ (cr (tx s))=.iface 70 (.int .i64 3) by rw[(eR h0).2.1];rfl];clear h0;go_wp2;refine UM (v:=.tuple #[.string ⟨#[]⟩,Zf 3]) (by simp[results,results47,go_sem]) rfl (Y ?_);rw[b];exact⟨rfl,H.dsk.later c,Fd.of c⟩
theorem NH{a:Tx}(h:Rdy w g n a Z)(hs:w.cell? (m,j)=some (.string X)):
 C_ prog 17 #[(g,0),(m,j,1,c)] w λe p=>H_ (CmP w g a (aT n Z 1 (tx X)) e p):=by
 have d:=Y (jq h 1 (by decide) X);obtain⟨o,b⟩:∃o,H_ (o=aT n Z 1 (tx X)):=⟨_,rfl⟩;rw[<-b] at d;rw[<-b];clear h;go_enter func17,ntmps17;go_wp2_with fail;refine d.mono ?_;rintro e q P;obtain⟨rfl,i⟩:=P.o;have l:=Y i;clear i P;go_wp2;exact UM (by simp[results,results17,go_sem]) rfl (⟨rfl,l⟩)
theorem IT{a:Tx}(h:Rdy w g n a Z)(hs:w.cell? (m,j)=some (.string X)):
 C_ prog 21 #[(g,0),(m,j,1,c)] w λe p=>H_ (CmP w g a (aT n Z 5 (tx X)) e p):=by
 have d:=Y (jq h 5 (by decide) X);obtain⟨o,b⟩:∃o,H_ (o=aT n Z 5 (tx X)):=⟨_,rfl⟩;rw[<-b] at d;rw[<-b];clear h;go_enter func21,ntmps21;go_wp2_with fail;refine d.mono ?_;rintro e q P;obtain⟨rfl,i⟩:=P.o;have l:=Y i;clear i P;go_wp2;exact UM (by simp[results,results21,go_sem]) rfl (⟨rfl,l⟩)
theorem Nz{a:Tx}(h:Rdy w g n a Z)(hs:w.cell? (m,j)=some (.string X)):
 C_ prog 22 #[(g,0),(m,j,1,c)] w λe p=>H_ (CmP w g a (aT n Z 6 (tx X)) e p):=by
 have d:=Y (jq h 6 (by decide) X);obtain⟨o,b⟩:∃o,H_ (o=aT n Z 6 (tx X)):=⟨_,rfl⟩;rw[<-b] at d;rw[<-b];clear h;go_enter func22,ntmps22;go_wp2_with fail;refine d.mono ?_;rintro e q P;obtain⟨rfl,i⟩:=P.o;have l:=Y i;clear i P;go_wp2;exact UM (by simp[results,results22,go_sem]) rfl (⟨rfl,l⟩)
theorem KU{a:Tx}(h:Rdy w g n a Z)(hs:w.cell? (m,j)=some (.string X)):
 C_ prog 23 #[(g,0),(m,j,1,c)] w λe p=>H_ (CmP w g a (aT n Z 7 (tx X)) e p):=by
 have d:=Y (jq h 7 (by decide) X);obtain⟨o,b⟩:∃o,H_ (o=aT n Z 7 (tx X)):=⟨_,rfl⟩;rw[<-b] at d;rw[<-b];clear h;go_enter func23,ntmps23;go_wp2_with fail;refine d.mono ?_;rintro e q P;obtain⟨rfl,i⟩:=P.o;have l:=Y i;clear i P;go_wp2;exact UM (by simp[results,results23,go_sem]) rfl (⟨rfl,l⟩)
theorem IS{a:Tx}(h:Rdy w g n a Z):
 C_ prog 19 #[(g,0),V] w λe l=>H_ (CmP w g a (aS n Z ⟨3,0,0,zB⟩) e l):=by
 have c:=Y (iD h.dsk h.n2 h.m h.gv h.g7 (x:=3) (t:=0) (y:=0) (d:=zB) (De.okN 3 0 (by decide) zB bW) (by decide));obtain⟨o,b⟩:∃o,H_ (o=aS n Z ⟨3,0,0,zB⟩):=⟨_,rfl⟩;rw[<-b] at c;rw[<-b];clear h;go_enter func19,ntmps19;go_wp2_with fail;refine c.mono ?_;rintro e m P;obtain⟨rfl,i⟩:=P.o;have j:=Y i;clear i P;go_wp2;exact UM (by simp[results,results19,go_sem]) rfl (⟨rfl,j⟩)
theorem NC{a:Tx}(h:Rdy w g n a Z):
 C_ prog 20 #[(g,0),V] w λe l=>H_ (CmP w g a (aS n Z ⟨4,0,0,zB⟩) e l):=by
 have c:=Y (iD h.dsk h.n2 h.m h.gv h.g7 (x:=4) (t:=0) (y:=0) (d:=zB) (De.okN 4 0 (by decide) zB bW) (by decide));obtain⟨o,b⟩:∃o,H_ (o=aS n Z ⟨4,0,0,zB⟩):=⟨_,rfl⟩;rw[<-b] at c;rw[<-b];clear h;go_enter func20,ntmps20;go_wp2_with fail;refine c.mono ?_;rintro e m P;obtain⟨rfl,i⟩:=P.o;have j:=Y i;clear i P;go_wp2;exact UM (by simp[results,results20,go_sem]) rfl (⟨rfl,j⟩)
end
section
variable {w:W_}{g n:Nat}
theorem vm{s:Tx}(h:¬eo s=0):blk s=none/\eo s=3/\fG s=zB:=by
 unfold eo fG at*;cases h2:blk s with
 |none=>simp
 |some v=>rw[h2] at h;simp at h
theorem yU{s:Tx}(h:eo s=0):blk s=some (fG s):=by
 unfold eo fG at*;cases h2:blk s with
 |none=>rw[h2] at h;simp at h
 |some v=>rfl
theorem CF{s:Tx}(h:∀c∈s,0<=hx c)(d:s.length=16)(j:Nat)(e:j<8):0<=bAt s 16 j/\bAt s 16 j<=255:=by
 have a:∀i,i<16->0<=gB s i/\gB s i<=15:=λi l=>by
  have b:=OR (Ox (show i<s.length by omega));unfold gB;rw[Oy,Ox (show i<s.length by omega)];exact⟨h _ b,(iy _).2⟩
 have h1:=a (2*j) (by omega);have h2:=a (2*j+1) (by omega);unfold bAt;rw[UY (by omega)];omega
theorem vk(s:Tx):by8 (fG s):=by
 unfold fG;cases h:blk s with
 |none=>exact bW
 |some v=>
  unfold blk at h;split at h
  ·rename_i hc
   cases h
   have k:=CF hc.2 hc.1;exact⟨k 0 (by decide),k 1 (by decide),k 2 (by decide),k 3 (by decide),k 4 (by decide),k 5 (by decide),k 6 (by decide),k 7 (by decide)⟩
  ·cases h
theorem BU{q:Tx}(r:Rdy w g n q Z)(hs:w.cell? (m,j)=some (.string X)):
 C_ prog 24 #[(g,0),(m,j,1,c)] w λi u=>H_ (CmP w g q (cmd n Z 9 (tx X) []) i u):=by
 have H:=Y r;clear r;have h:=Y (ByteArray.toList_eq X);go_enter func24,ntmps24;cases hf:(X.toList==[102,105,114,115,116])
 ·cases hg:(X.toList==[111,116,104,101,114])
  ·have a:=Y (show cmd n Z 9 (tx X) []=⟨3,[],n,Z⟩ by
    rw[h] at hf hg;unfold cmd;rw[UX (by simpa using hf),UX (by simpa using hg)];rfl)
   go_wp2;refine UM (v:=.tuple #[.string ⟨#[]⟩,Zf 3]) (by simp[results,results24,go_sem]) rfl (Y ?_);rw[a];exact⟨rfl,H.dsk,Fd.refl _ _⟩
  ·have a:=Y (show cmd n Z 9 (tx X) []=aS n Z ⟨9,0,0,zB⟩ by
    rw[h] at hf hg;unfold cmd;rw[UX (by simpa using hf),UY (by simpa using hg)];rfl)
   have b:=Y (iD H.dsk H.n2 H.m H.gv H.g7 (x:=9) (t:=0) (y:=0) (d:=zB) (De.okN 9 0 (by decide) zB bW) (by decide));obtain⟨o,l⟩:∃o,H_ (o=aS n Z ⟨9,0,0,zB⟩):=⟨_,rfl⟩;rw[<-l] at b a;go_wp2_with fail;refine b.mono ?_;rintro i s P;obtain⟨rfl,e⟩:=P.o;have p:=Y e;clear e P;go_wp2;exact UM (v:=.tuple #[.string ⟨o.t.toArray⟩,aJ o.e]) (by simp[results,results24,go_sem]) rfl (Y (by rw[a];exact⟨rfl,p⟩))
 ·have a:=Y (show cmd n Z 9 (tx X) []=aS n Z ⟨8,0,0,zB⟩ by
   rw[h] at hf;unfold cmd;rw[UY (by simpa using hf)];rfl)
  have b:=Y (iD H.dsk H.n2 H.m H.gv H.g7 (x:=8) (t:=0) (y:=0) (d:=zB) (De.okN 8 0 (by decide) zB bW) (by decide));obtain⟨o,l⟩:∃o,H_ (o=aS n Z ⟨8,0,0,zB⟩):=⟨_,rfl⟩;rw[<-l] at b a;go_wp2_with fail;refine b.mono ?_;rintro i s P;obtain⟨rfl,e⟩:=P.o;have p:=Y e;clear e P;go_wp2;exact UM (v:=.tuple #[.string ⟨o.t.toArray⟩,aJ o.e]) (by simp[results,results24,go_sem]) rfl (Y (by rw[a];exact⟨rfl,p⟩))
theorem BS{r:Tx}(h:Rdy w g n r Z)(hs:w.cell? (m,j)=some (.string X)):
 C_ prog 15 #[(g,0),(m,j,1,c)] w λl x=>H_ (CmP w g r (cmd n Z 0 (tx X) []) l x):=by
 have s:=Y (mV X w);have H:=Y h;clear h;go_enter func15,ntmps15;go_wp2_with fail;refine s.mono ?_;rintro l y ⟨rfl,a⟩;have⟨V,q⟩:=ZX (bZ (tx X));rw[<-q];by_cases h0:cr (tx X)=0
 ·rw[show aJ (cr (tx X))=.nilIface by rw[h0];rfl];have i:=Y (show cmd n Z 0 (tx X) []=if V<1\/32<V then⟨1,[],n,Z⟩ else⟨0,[111,107],V,[]⟩ by unfold cmd;rw[eX h0,<-q]);clear h0;by_cases o:V<1\/32<V
  ·have e:=Y i;rw[UY o] at e;have p:(V:Int)<1\/¬(V:Int)<1/\(32:Int)<V:=by omega
   clear o;rcases p with p|⟨p,E⟩
   all_goals
    go_wp2;refine UM (v:=.tuple #[.string ⟨#[]⟩,Zf 1]) (by simp[results,results15,go_sem]) rfl (Y ?_);rw[e];exact⟨rfl,H.dsk.later a,Fd.of a⟩
  ·have e:=Y i;rw[UX o] at e;have h1:¬(V:Int)<1:=by omega
   have h2:¬(32:Int)<V:=by omega
   have⟨u,t,B,D,A,d⟩:=H.dsk.later a;have b:=Y d;have c2:=d.bx.cell 2;have c3:=d.bx.cell 3;simp only[OB,OA,Oz] at c2 c3;have G:=d.bx.frozen;clear o d;go_wp2;refine UM (v:=.tuple #[.string ⟨#[111,107]⟩,Zn]) (by simp[results,results15,go_sem]) rfl (Y ?_);rw[e];have z:=(b.bx.set 2 (Zb (V:Int))).set 3 Zs;have F:=(Fd.set y 2 (Zb (V:Int)) (g:=g)).trans (Fd.set _ 3 Zs);refine⟨rfl,⟨u,t,none,0,0,by simpa using z,b.o.pn,aB (aB b.o.row ?_) ?_,⟨⟨rfl,by simp,λh=>by omega⟩,λh=>by omega,λ_=>rfl⟩,OJ _,b.o.nb⟩,(Fd.of a).trans F⟩;all_goals
    intro l;have C:g+1<=g:=(World.ownsRow.lt b.row _ l).1;omega
 ·have i:=Y (show cmd n Z 0 (tx X) []=⟨3,[],n,Z⟩ by unfold cmd;rw[(eR h0).1]);rw[show aJ (cr (tx X))=.iface 70 (.int .i64 3) by rw[(eR h0).2.1];rfl];clear h0;go_wp2;refine UM (v:=.tuple #[.string ⟨#[]⟩,Zf 3]) (by simp[results,results15,go_sem]) rfl (Y ?_);rw[i];exact⟨rfl,H.dsk.later a,Fd.of a⟩
theorem BV{B:Tx}(A:Rdy w g n B Z)(K:m<w)(hs:w.cell? (m,j)=some (.string X))(L:w.cell? (m,j+1)=some (.string I)):
 C_ prog 16 #[(g,0),(m,j,2,c)] w λe F=>H_ (CmP w g B (cmd n Z 1 (tx X) (tx I)) e F):=by
 have M:=Y (mV X w);have H:=Y A;clear A;go_enter func16,ntmps16;go_wp2_with fail;refine M.mono ?_;rintro e J ⟨rfl,q⟩;have⟨V,s⟩:=ZX (bZ (tx X));rw[<-s];by_cases h0:cr (tx X)=0
 ·rw[show aJ (cr (tx X))=.nilIface by rw[h0];rfl];have l:=Y (show num (tx X)=V by rw[eX h0,<-s]);clear h0;have ab:=(q.cell (p:=(m,j+1)) K).trans L;obtain⟨d,hd⟩:∃d:B8,H_ (d=fG (tx I)):=⟨_,rfl⟩;have E:=Y (BT (v:=J) hd);go_wp2_with fail;refine E.mono ?_;rintro e r ⟨rfl,D⟩;have u:=Y (q.t D);have⟨W,i⟩:=ZX (r.alloc (.cells d 65));have G:H_ (Bx W r d.arr 65):=(by rw[i];exact Bx.new r _ _);have b:H_ (OS w W):=(by rw[i];exact u.alloc u.size _);by_cases h1:eo (tx I)=0
  ·rw[show aJ (eo (tx I))=.nilIface by rw[h1];rfl];have h:=Y (show cmd n Z 1 (tx X) (tx I)=aS n Z ⟨0,(V:Int),0,d⟩ by unfold cmd;rw[l,yU h1,<-hd];rfl);have a:=H.later b;have z:=Y (iD a.dsk a.n2 a.m a.gv a.g7 (De.okN 0 V (by rw[s];exact gh _) d (by rw[hd];exact vk _)) (by decide));obtain⟨o,N⟩:∃o,H_ (o=aS n Z ⟨0,(V:Int),0,d⟩):=⟨_,rfl⟩;rw[<-N] at z h;have⟨U,T,Q,x3,x4,x5,x6,S⟩:=Bx.eight G;clear h1 a;go_upto_region 5 with fail;rw[<-i];go_wp2_with fail;refine z.mono ?_;rintro e R P;obtain⟨rfl,C⟩:=P.after b;have O:=Y C;clear C P;go_wp2;exact UM (v:=.tuple #[.string ⟨o.t.toArray⟩,aJ o.e]) (by simp[results,results16,go_sem]) rfl (Y (by rw[h];exact⟨rfl,O⟩))
  ·rw[show aJ (eo (tx I))=.iface 70 (.int .i64 3) by rw[(vm h1).2.1];rfl];have h:=Y (show cmd n Z 1 (tx X) (tx I)=⟨3,[],n,Z⟩ by unfold cmd;rw[l,(vm h1).1];rfl);clear h1;go_upto_region 5 with fail;rw[<-i];go_wp2;refine UM (v:=.tuple #[.string ⟨#[]⟩,Zf 3]) (by simp[results,results16,go_sem]) rfl (Y ?_);rw[h];exact⟨rfl,H.dsk.later b,Fd.of b⟩
 ·have l:=Y (show cmd n Z 1 (tx X) (tx I)=⟨3,[],n,Z⟩ by unfold cmd;rw[(eR h0).1];rfl);rw[show aJ (cr (tx X))=.iface 70 (.int .i64 3) by rw[(eR h0).2.1];rfl];clear h0;go_wp2;refine UM (v:=.tuple #[.string ⟨#[]⟩,Zf 3]) (by simp[results,results16,go_sem]) rfl (Y ?_);rw[l];exact⟨rfl,H.dsk.later q,Fd.of q⟩
end
section
variable {w:W_}{g:Nat}
theorem Bx.c13(h:Bx w g #[V,K,G,F,E,D,C,B,A,s,r,o,e] W):w.cell? g=V/\w.cell? (g,1)=K/\w.cell? (g,2)=G/\w.cell? (g,3)=F/\w.cell? (g,4)=E/\w.cell? (g,5)=D/\w.cell? (g,6)=C/\w.cell? (g,7)=B/\w.cell? (g,8)=A/\w.cell? (g,9)=s/\w.cell? (g,10)=r/\w.cell? (g,11)=o/\w.cell? (g,12)=e:=⟨h.cell 0,h.cell 1,h.cell 2,h.cell 3,h.cell 4,h.cell 5,h.cell 6,h.cell 7,h.cell 8,h.cell 9,h.cell 10,h.cell 11,h.cell 12⟩
def eT(n m:Nat):Int:=if n=0 then 5 else if 300<m then 2 else 0
def Sto(w:W_)(n:Nat)(es:List De)(hv:Int)(oa:Option A_)(on oc:Nat):Prop:=
 hv=(Mx.hv n es:Nat)/\on=n/\oc=n/\BL w oa n (Mx.dY n es)/\(Mx.dY n es).length=n/\(∀x∈Mx.dY n es,Mx.by8 x)/\(Mx.aC n es).2.length=n/\∀x∈(Mx.aC n es).2,Mx.by8 x
theorem Cf(h1:1<=j)(h2:j<=32)(hd:DL v a m Z):
 C_ prog 70 #[j,(a,m,c)] v λe h=>∃(hv k:Int) (l:Option A_) (p A:Nat),e=Zr #[.agg #[Zi,Zu,Zu,Zu,Zu,Zu,Zu,Zu,Zu,hv,hv,hv,(l,p,A)],k,aJ (eT j m)]/\H_ (OS v h/\(eT j m=0->Sto h j Z hv l p A/\∀r,l=some r->v.heap.size<=r.block)):=by
 by_cases i:300<m
 ·have d:eT j m=2:=by unfold eT;rw[UX (by omega),UY i]
  have b:eI (j:Int) m=2:=by unfold eI;rw[UX (by omega),UY i]
  refine(Cg (x:=(j:Int)) (q:=a) (k:=m) (j:=c) (u:=v) (by rw[b];decide)).mono ?_;rintro e h ⟨rfl,C⟩;exact⟨0,0,none,0,0,by rw[d,b];rfl,C,λe=>by rw[d] at e;cases e⟩
 ·have d:eT j m=0:=by unfold eT;rw[UX (by omega),UX i]
  refine(FM (c:=c) h1 h2 (by omega) hd).mono ?_;rintro e h ⟨M,k,rfl,G⟩;obtain⟨hv,q,bl,rfl,_,K,y,I,H,⟨D,F⟩,J⟩:=G.o;have s:Mx.hv j Z=hv:=by unfold Mx.hv;omega
  have b:dY j Z=bl:=by unfold dY;rw[s,Oy,y];rfl
  have⟨t,E⟩:=H bl (OR y);have⟨L,c2,o,z,B⟩:=ay.bl I;rw[t] at o z;cases o
  exact⟨(hv:Int),(k:Int),some ⟨q,0,none⟩,j,j,by rw[d];rfl,J,λ_=>⟨⟨by rw[s],rfl,rfl,by rw[b];exact z,by rw[b];exact t,by rw[b];exact E,D,F⟩,B⟩⟩
def StP(w:W_)(n m:Nat)(es:List De)(e:Ending)(w':W_):Prop:=
 ∃(hv:Int) (oa:Option A_) (on oc:Nat),e=.returned (.tuple #[.agg #[.int .i64 0,.int .u8 0,.int .u8 0,.int .u8 0,.int .u8 0,.int .u8 0,.int .u8 0,.int .u8 0,.int .u8 0,.int .i64 hv,.int .i64 hv,.int .i64 hv,.slice oa on oc],aJ (eT n m)])/\OS w w'/\(eT n m=0->Sto w' n es hv oa on oc)
theorem DL.fr(h:DL w a m Z)(b:OS w v):DL v a m Z:=h.later b h.av
theorem Sto.later{w w':W_}{n:Nat}{d:List De}{b:Int}{a:Option A_}{e c:Nat}(h:Sto w n d b a e c)(i:OS w w'):Sto w' n d b a e c:=⟨h.1,h.2.1,h.2.2.1,h.2.2.2.1.later i,h.2.2.2.2⟩
theorem kE{ai:Tx}(hd:Dsk w g ai c Z)(n2:c<=32)(T:Nat)(hs:DL w a m J):
 C_ prog 50 #[(g,0),(a,m,T)] w λe w'=>H_ (StP w c m J e w'):=by
 have⟨W0,M⟩:=ZX (w.alloc (.cells Zo 95));have o:=beA M;have R:=bxA M;have HS:=Y (hs.fr o);have⟨pa,bv,sa,sm,sc,hd⟩:=hd;have c1:=(hd.later o).bx.cell 2;simp only[OB,OA,Oz] at c1;clear hd hs;go_enter func50,ntmps50;go_upto_region 1 with fail;rw[<-M];by_cases h0:c=0
 ·subst h0;have⟨V,d⟩:=ZX (iW W0 w 0 0 0 Zs);have A:H_ (Bx V w Zo 95):=(by rw[d];exact oK R);have U:H_ (OS w V):=(by rw[d];exact aM o (ke) (OJ _));have rz:=R.frozen;have⟨I,S,r2,G,L,W,r6,C,x,u,E,K,P⟩:=R.c13;go_wp2;change bodyPost prog Tryz.f50 _ _ _ (iW W0 w 0 0 0 Zs);rw[<-d];clear I S r2 G L W r6 C x u E K P;have⟨s0,N,D,Q,y,s5,z,F,X,t,ae,ab,ad⟩:=A.c13;exact UM (by simp[results,results50,go_sem,s0,N,D,Q,y,s5,z,F,X,t,ae,ab,ad];rfl) rfl (⟨0,none,0,0,rfl,U,λe=>by cases e⟩)
 ·have al:¬(c:Int)=0:=by omega
  have HR:=Y (Cf (c:=T) (by omega) n2 HS);go_wp2_with fail;refine HR.mono ?_;clear HR;rintro e w1 ⟨b,k,i,h,l,rfl,s⟩;have r:=Y s.1;have P2:=Y s.2;clear s;have⟨EV,af⟩:=ZX (aJ (eT c m));rw[<-af];have⟨q,O⟩:=ZX (w1.alloc (.cells #[Zi,Zu,Zu,Zu,Zu,Zu,Zu,Zu,Zu,b,b,b,(i,h,l)] 95));have H:=beA O;have B2:=bxA O;have B:=Y ((R.later r R.lt).later H (OE R.lt r.size));have DW:=Y (show OS w q from(o.t r).trans (H.mono (OP o.size r.size)));have⟨V,d⟩:=ZX (iW q w b b b (i,h,l));have A:H_ (Bx V w #[Zi,Zu,Zu,Zu,Zu,Zu,Zu,Zu,Zu,b,b,b,(i,h,l)] 95):=(by rw[d];exact oK B);have GV:H_ (q.grownBy V (some w)):=(by rw[d];exact ke);have U:=Y (aM DW GV (OJ _));have PV:=Y (show eT c m=0->Sto V c J b i h l from λe=>by
   have p:=(P2 e).1.later H;exact⟨p.1,p.2.1,p.2.2.1,p.2.2.2.1.iK GV (λ_ aj hp=>by have h9:=(P2 e).2 aj hp;have h8:=R.lt;omega),p.2.2.2.2⟩)
  go_upto_region 4 with fail;rw[<-O];have rz:=B.frozen;have⟨I,S,r2,G,L,W,r6,C,x,u,E,K,P⟩:=B.c13;have⟨b0,b1,b2,b3,b4,b5,b6,b7,b8,b9,ag,ak,ah⟩:=B2.c13;go_wp2;change bodyPost prog Tryz.f50 _ _ _ (iW q w b b b (i,h,l));rw[<-d];clear I S r2 G L W r6 C x u E K P b0 b1 b2 b3 b4 b5 b6 b7 b8 b9 ag ak ah;have⟨s0,N,D,Q,y,s5,z,F,X,t,ae,ab,ad⟩:=A.c13;exact UM (by simp[results,results50,go_sem,s0,N,D,Q,y,s5,z,F,X,t,ae,ab,ad];rfl) rfl (⟨b,i,h,l,by rw[af],U,PV⟩)
theorem yB(j:BL v a m l)(J:m<=1000):
 C_ prog 56 #[(a,m,c)] v λP u=>∃F B,P=Zv (.slice F m B)/\H_ (bt u v (.slice F m B) (bM l))/\H_ (OS v u):=by
 have⟨ae,hC,z⟩:=tI J;have HL:=Y j;have C:=j.1;have s:=Y C;clear j C;have⟨W0,p⟩:=ZX (v.alloc (.cells ae 123));have D0:=beA p;have R:H_ (bt W0 v (v,0,m) []):=(by rw[p];exact z v v (OJ _));clear z;go_enter func56,ntmps56;go_wp2;rw[<-p];go_wp2;clear hC;go_loopw [3,11] (λO t wr=>∃(k:Nat) (b:Option A_) (d:Nat),t=Zb (k:Int)/\O=(b,k,d)/\k<=m/\H_ (bt wr v (b,k,d) ((bM l).take k))/\H_ (OS v wr)) (λ_ t _=>m-(intOf t).toNat)
 case atStart=>exact⟨0,_,_,rfl,rfl,ol _,by rw[List.take_zero];exact R,D0⟩
 case round=>
  obtain⟨k,b,d,rfl,rfl,D,r,h⟩:=hrel;by_cases X:k<m
  ·have ag:(k:Int)<m:=by omega
   have⟨ah,ai,I,S,af,H,c0,c1,c2,c3,c4,c5,V,c7⟩:=(HL.later h).at_ k X;subst S;have L:=Y H;clear H;have⟨A,e⟩:=ZX (wr.alloc (.cells I 65));have M:=bxA e;have y:H_ (OS v A):=(by rw[e];exact h.alloc h.size _);have o:H_ (bt A v (b,k,d) ((bM l).take k)):=(by rw[e];exact World.ownsRow.alloc r _);have G:=Y y.size;go_upto_region 5 with fail;rw[<-e];have⟨W,Q,K,x3,x4,x5,x6,N⟩:=M.eight;clear c0 c1 c2 c3 c4 c5 V c7;have q:=Y (show((bM l).take k).length=k by rw[OM,eD,s];omega);obtain⟨T,x⟩:∃T:List Pt,H_ (T=(bM l).take k):=⟨_,rfl⟩;rw[<-x] at o q;go_wp2_with (at_builtin;refine eF rfl rfl v T ?o1 ⟨(k:Int),I⟩ ?o2 ?o3 ?o4 ?_);case o1=>exact o
   case o2=>rfl
   case o3=>rw[q];omega
   case o4=>exact G
   rw[q];intro ab c2 w3 i E;rw[x,<-sY L] at i;have U:=Y i;have Z:=Y (y.grown E G (λk D=>(World.ownsRow.lt o k D).1));clear i E W Q K x3 x4 x5 x6 N;go_wp2;go_roundw
   case rel=>exact⟨k+1,some ab,c2,by go_num,rfl,by omega,U,Z⟩
   case measure=>simp[intOf];omega
  ·obtain rfl:k=m:=by omega
   go_wp2;go_ret;exact⟨b,d,rfl,by rw[OL (by rw[eD,s];exact OJ _)] at r;exact r,h⟩
end
theorem Mx.rk:∀(f:Nat) (l:List Nat),1<=l.length->1<=(fe f l).length/\∀x∈fe f l,1<=x.length
 |0,l,h=>⟨by simp[fe],λx a=>by rw[i5.1 a];exact h⟩
 |f+1,l,h=>by
  rw[fe];split
  ·exact⟨by simp,λx a=>by rw[i5.1 a];exact h⟩
  ·have b:=rk f (cw l) (by rw[oy];omega)
   refine⟨by simp,λx a=>?_⟩;rcases ro.1 a with rfl|a
   ·exact h
   ·exact b.2 x a
theorem iZ.top{w:W_}{j:Option A_}{k:Nat}{l:List B8}(m:iZ w j k (levels (l.map bR)))(r:1<=l.length):∃b d e c a i,j=some ⟨b,d,none⟩/\1<=k/\b<w.heap.size/\w.cell? ⟨b,d+(k-1),none⟩=some (.slice (some ⟨e,c,none⟩) a i)/\1<=a/\w.cell? ⟨e,c,none⟩=some (.int .u64 (top l:Nat))/\top l<18446744073709551616:=by
 have⟨h1,h2⟩:=rk (l.map bR).length (l.map bR) (by simpa using r);have o:(levels (l.map bR)).length=k:=m.1;have s:1<=k:=by rw[<-o];exact h1
 have⟨b,d,x,D,a,i,A,z,p,hc,h,_⟩:=m.at_ (k-1) (by omega);have q:=h2 x (OR p);have⟨e,c,y,B,_,t,C,v⟩:=h.at_ 0 (by rw[<-h.1];exact q);subst B;have u:Mx.top l=y:=by
  unfold Mx.top;rw[o,Oy (l:=levels _),p];show x.getD 0 0=y;rw[Oy,t];rfl
 rw[u];exact⟨b,d,e,c,a,i,A,s,z,hc,by rw[<-h.1];exact q,v,by omega⟩
theorem LM(h:by8 d):d.ok:=λz a=>by
 have⟨k,b⟩:=Tv a;exact vp (k:=k) h b
theorem yC{T:Tx}(h:Rdy v m c T Z):
 C_ prog 25 #[(m,0),V] v λe w'=>H_ (CmP v m T (settled c Z) e w'):=by
 have⟨pa,bv,aw,d,aj,hd⟩:=h.dsk;have Q:Z.length=d:=hd.sc.1.1;have HM:H_ (d<=300):=(by rw[<-Q];exact h.m);have S:=Y (kE h.dsk h.n2 aj hd.sc.1);have c3:=hd.bx.cell 3;simp only[OB,OA,Oz] at c3;have H:=Y h;clear hd Q h;go_enter func25,ntmps25;go_wp2_with fail;refine S.mono ?_;clear S c3;rintro e w1 N;obtain⟨a,oa,on,b,rfl,L,z⟩:=N.o;have L:=Y L;have z:=Y z;clear N;have⟨W1,o⟩:=ZX (w1.alloc (.cells #[Zi,Zu,Zu,Zu,Zu,Zu,Zu,Zu,Zu,a,a,a,(oa,on,b)] 95));have y:=bxA o;have U:=beA o;have x:=Y (L.t U);by_cases h0:c=0
 ·have i:=Y (show settled c Z=⟨5,[],c,Z⟩ by unfold settled;rw[UY h0]);rw[show aJ (eT c d)=.iface 70 (.int .i64 5) by rw[h0];rfl];clear h0;go_upto_region 2 with fail;rw[<-o];go_wp2;refine UM (v:=.tuple #[.string ⟨#[]⟩,.iface 70 (.int .i64 5)]) (by simp[results,results25,go_sem]) rfl (Y ?_);rw[i];exact⟨rfl,H.dsk.later x,Fd.of x⟩
 ·have R:=Y (show eT c d=0 by unfold eT;rw[UX h0,UX (by have:=HM.o;omega)]);rw[show aJ (eT c d)=.nilIface by rw[R];rfl];obtain⟨G,rfl,rfl,I,W,h8,_,_⟩:=(z R).later U;have HB:=Y I;have HL:=Y W;have i:=Y (show settled b Z=⟨0,Lib.itoa a++32::Lib.decDigits (top (dY b Z)),b,Z⟩ by unfold settled;rw[UX h0,G]);have r:H_ (InR a):=(by have h9:=kR b Z;have h7:=H.m;rw[G];exact⟨by omega,by omega⟩);have B:=Y (MC (j:=b) I (λah l=>LM (h8 ah l)) (by omega) H.n2);obtain⟨s,ak⟩:∃s,H_ (s=dY b Z):=⟨_,rfl⟩;rw[<-ak] at B HL i;have ad:=Y (show 1<=s.length by rw[HL];omega);clear I W h8 z G h0 HB;have am:=y.cell 12;simp only[OB,OA,Oz] at am;go_upto_region 2 with fail;rw[<-o];go_wp2_with fail;refine B.mono ?_;clear B;rintro e w2 ⟨la,k,af,rfl,E,p⟩;have⟨W2,F⟩:=ZX (w2.alloc (.cells #[(la,k,af)] 74));have T2:=bxA F;have K:=beA F;have D:=Y (show OS v W2 from(x.t p).trans (K.mono (OP x.size p.size)));have ag:=((y.later p y.lt).later K (OE y.lt p.size)).cell 11;have t0:=T2.cell 0;simp only[OB,OA,Oz] at ag t0;obtain⟨ao,ap,bi,ay,X,ci,rfl,an,hbl,x1,al,x2,l⟩:=(E.1.later K).top ad;have⟨u,hu⟩:=ZX (top s);rw[<-hu] at x2 l i;have P:=Y l;have C:=Y (H.gv.later D H.gv.2.2.2);obtain⟨t,rfl⟩:∃t,k=t+1:=⟨k-1,by omega⟩;rw[UH] at x1;have ab:=E.1.2.1;have ax:wrap64 (t:Int)=(t:Int):=by unfold maxLen at ab;unfold wrap64;omega
  clear ab;have HI:=Y (mG C r.lo r.hi);have ar:(0:Int)<X:=by omega
  have av:0<X:=al;clear E l hbl;go_upto_region 5 with fail;rw[<-F];go_upto_region 8 with fail;go_wp2_with fail;refine HI.mono ?_;rintro e w3 ⟨rfl,A⟩;have HU:=Y (Mq P (C.later A C.2.2.2));have ae:=Lib.itoa_length_le a r.lo r.hi;have ai:=nO P;have au:¬9223372036854775807<(Lib.itoa a).length+1:=by omega
  have aq:¬9223372036854775807<(Lib.itoa a).length+1+(Lib.decDigits u).length:=by omega
  clear ae ai;go_wp2_with fail;refine HU.mono ?_;rintro e w4 ⟨rfl,D8⟩;have O:=Y (show OS v w4 from(D.t A).trans (D8.mono (OP D.size A.size)));go_wp2;go_ret2;rw[i];refine⟨?_,H.dsk.later O,Fd.of O⟩;show _=Ending.returned (.tuple #[.string ⟨(Lib.itoa a++32::Lib.decDigits u).toArray⟩,Zn]);rw[show Lib.itoa a++32::Lib.decDigits u=Lib.itoa a++[32]++Lib.decDigits u by simp,<-fa,<-fa];rfl
namespace Mx
structure PkF (q:Pk):Prop where
 a0:0<=q.at_
 a1:q.at_<1000
 k0:0<=q.kind
 k1:q.kind<1000
 f0:0<=q.from_
 f1:q.from_<1000
 d8:by8 q.d
theorem vK(l:List B8)(b:B8)(h:l.length<=32):0<=dX l b/\dX l b<1000:=by
 unfold dX dI;by_cases a:b∈l
 ·rw[UY a];have:=List.idxOf_lt_length_of_mem a;rw[UX (by omega)];omega
 ·rw[UX a,UY (by omega)];omega
theorem zJ(b:l.length<=32)(h0:0<=P.at_)(h1:P.at_<32)(d:by8 P.d):PkF (cy P l []):=by
 have c:=vK l P.d b;have a:=vK [] P.d (by decide);have⟨i,h⟩:=c;have⟨j,e⟩:=a;unfold cy
 repeat' split
 all_goals (constructor<;>dsimp only<;>first|assumption|exact bW|omega)
theorem qg(h:l.length<=32)(j:M.length<=32)(e:∀x∈M,by8 x):∀q∈pks l [] (bM M),PkF q:=λq i=>by
 have⟨p,d,b⟩:=If.1 i;have h1:=yR p d;have⟨m,c⟩:=Tv d;have a:=(OI.1 c).1;rw[eD] at a;rw[jc a] at c;cases c
 unfold jH at b;split at b
 ·cases b
 ·rw[i5.1 b]
  exact zJ h h1.1 (by omega) (e _ (by rw[Oy,Ox a];exact TJ a))
theorem join_le(d:UInt8)(L:Nat):∀b:List Tx,(∀x∈b,x.length<=L)->(Lib.join b [d]).length<=b.length*(L+1)
 |[],_=>by rw[Lib.join_nil];exact ol _
 |x::r,h=>by
  have e:∀r:List Tx,(∀x∈r,x.length<=L)->(Lib.joinTail [d] r).length<=r.length*(L+1):=λr c=>by
   induction r with
   |nil=>exact ol _
   |cons y r i=>
    have h1:=i (λx a=>c x (gt _ a));have h2:=c y li;unfold Lib.joinTail at h1 ⊢;rw[i7,List.flatten_cons,OC,OC];simp only[fd,ut,Nat.succ_mul];omega
  have h1:=e r (λx a=>h x (gt _ a));have h2:=h x li;rw[Lib.join_cons,OC,fd,Nat.succ_mul];omega
theorem wU(h:PkF O):(pkT O).length<=100:=by
 have d:=Lib.itoa_length_le O.at_ (by have:=h.a0;omega) (by have:=h.a1;omega);have c:=Lib.itoa_length_le O.kind (by have:=h.k0;omega) (by have:=h.k1;omega);have b:=Lib.itoa_length_le O.from_ (by have:=h.f0;omega) (by have:=h.f1;omega);unfold pkT;refine OP (join_le 32 21 _ ?_) ?_
 ·intro x a;rcases ip.1 a with a|a
  ·simp only[ro,Um,or_false] at a;rcases a with rfl|rfl|rfl<;>assumption
  ·split at a
   ·rw[i5.1 a,mF];decide
   ·cases a
 ·split<;>simp
theorem Hv(n:Nat)(a:List De):dY n (a++[⟨3,0,0,zB⟩])=(aC n a).2:=by
 unfold dY hv;rw[iX];unfold dL doS;rw[UY rfl,OC];simp[List.getD_eq_getElem?_getD]
end Mx
section
variable {w:W_}{n:Nat}
theorem jb.read(l:jb w m (.slice a n c) N):N.length=n/\n<=c/\(0<n->∃b o,a=some ⟨b,o,none⟩/\b<w.heap.size/\∀(j:Nat) v,N[j]?=some v->w.cell? ⟨b,o+j,none⟩=some (.string v)):=by
 have⟨s,r,i,hc,h,_⟩:=aF l;cases i
 refine⟨rfl,hc,λh0=>?_⟩;have⟨b,o,q,p,e⟩:=h.2.2 h0;refine⟨b,o,q,p,λj v d=>e j _ (by rw[i8,d];rfl)⟩
theorem MO(x:m<j)(A:c<j)(r:H_ (j=v))(h:H_ (BL v a n l))(C:n<=32)(z:u.cell? (m,12)=(a,n,n)/\u.cell? (c,12)=(q,n,n)/\Below j v u):
 C_ prog 56 #[(a,n,n)] u λs y=>∃b d,s=Zv (.slice b n d)/\H_ (PL y b n (bM l))/\(y.cell? (m,12)=(a,n,n)/\y.cell? (c,12)=(q,n,n)/\Below j v y):=by
 have⟨h1,h2,e⟩:=z;have t:=e;rw[r] at t;refine(yB (c:=n) (h.later t) (by omega)).mono ?_;rintro s y ⟨b,d,rfl,O,D⟩;have⟨B,c2,o,i,_⟩:=bt.pl O;rw[eD,h.1] at o i;cases o
 have hs:j<=u:=by rw[r];exact e.size
 exact⟨b,d,rfl,i,(D.cell (p:=(m,12)) (OE x hs)).trans h1,(D.cell (p:=(c,12)) (OE A hs)).trans h2,e.trans (D.mono hs)⟩
theorem Nw(x:j<h)(G:i<h)(r:H_ (h=v))(z:H_ (BL v p n M))(J:n<=32)(h1:1<=n)(E:H_ (l.length=n))(H:H_ (L=pks M [] (bM l)))(C:H_ (c=L.length))(F:u.cell? (j,12)=(q,n,n)/\u.cell? (i,12)=(p,n,n)/\Below h v u)(A:H_ (PL u a n (bM l))):
 C_ prog 55 #[(a,n,m),(p,n,n),Zs] u λs y=>∃d e,s=Zr #[.slice d c e,Zn]/\H_ (QL y d c L)/\(y.cell? (j,12)=(q,n,n)/\y.cell? (i,12)=(p,n,n)/\Below h v y):=by
 have⟨B,I,o⟩:=F;have t:=o;rw[r] at t;refine(Bq (g:=m) (c:=n) A (z.later t) (BL.nil u) (OJ _) (by omega) (by omega) (by unfold gW;rw[UX (by omega)];rfl) (by rw[<-E];exact qm (kL l))).mono ?_;rintro s y ⟨d,e,rfl,Q,D⟩;rw[<-H,<-C.out] at*;have hs:h<=u:=by rw[r];exact o.size
 exact⟨d,e,rfl,Q,(D.cell (p:=(j,12)) (OE x hs)).trans B,(D.cell (p:=(i,12)) (OE G hs)).trans I,o.trans (D.mono hs)⟩
theorem Fp{ap:Tx}(t:Rdy w m n ap Z):
 C_ prog 26 #[(m,0),V] w λp w'=>H_ (CmP w m ap (cu n Z) p w'):=by
 have⟨aL,bv,aQ,j,aE,hd⟩:=t.dsk;have ag:Z.length=j:=hd.sc.1.1;have I:H_ (j<=300):=(by rw[<-ag];exact t.m);have C:=Y (kE t.dsk t.n2 aE hd.sc.1);have c3:=hd.bx.cell 3;simp only[OB,OA,Oz] at c3;have H:=Y t;have HD:=Y hd;have av:=Y ag;clear hd ag t;go_enter func26,ntmps26;go_wp2_with fail;refine C.mono ?_;clear C c3;rintro p L P1;obtain⟨hv,q,on,oc,rfl,D1,Q⟩:=P1.o;have D1:=Y D1;have Q:=Y Q;clear P1;have⟨W1,S⟩:=ZX (L.alloc (.cells #[Zi,Zu,Zu,Zu,Zu,Zu,Zu,Zu,Zu,hv,hv,hv,(q,on,oc)] 95));have R1:=bxA S;have D2:=beA S;have B:=Y (D1.t D2);by_cases h0:n=0
 ·have l:=Y (show cu n Z=⟨5,[],n,Z⟩ by unfold cu;rw[UY h0]);rw[show aJ (eT n j)=.iface 70 (.int .i64 5) by rw[h0];rfl];clear h0;go_upto_region 2 with fail;rw[<-S];go_wp2;go_ret2;rw[l];exact⟨rfl,H.dsk.later B,Fd.of B⟩
 ·have HE:=Y (show eT n j=0 by unfold eT;rw[if_neg h0,if_neg (by have:=I.o;omega)]);rw[show aJ (eT n j)=.nilIface by rw[HE];rfl];have T1:=Y ((Q HE).later D2);clear Q;have HW:=Y (xO (HD.later B) (x:=3) (y:=0) (z:=0) (d:=zB) (De.okN 3 0 (by decide) zB bW) I);go_upto_region 2 with fail;rw[<-S];go_wp2_with fail;refine HW.mono ?_;clear HW;rintro p w2 ⟨y,c2,rfl,W,D4,_⟩;have D5:=Y (B.t D4);have C:=Y (kE (H.dsk.later D5) H.n2 (a:=some y) (m:=j+1) c2 W.1);go_wp2_with fail;refine C.mono ?_;clear C;rintro p J P3;obtain⟨kv,a,pn,pc,rfl,F,P⟩:=P3.o;have F:=Y F;have P:=Y P;clear P3;obtain⟨r,M⟩:=ZX (J.alloc (.cells #[Zi,Zu,Zu,Zu,Zu,Zu,Zu,Zu,Zu,kv,kv,kv,(a,pn,pc)] 95));have R3:=bxA M;have D7:=beA M;have U:=Y (show OS W1 r from(D4.t F).trans (D7.mono (OP D4.size F.size)));have R:=Y (B.t U);by_cases h3:j=300
  ·have l:=Y (show cu n Z=⟨2,[],n,Z⟩ by unfold cu;rw[if_neg h0,if_pos (by rw[av];omega)]);rw[show aJ (eT n (j+1))=.iface 70 (.int .i64 2) by unfold eT;rw[if_neg h0,if_pos (by omega)];rfl];clear h0 h3;go_upto_region 5 with fail;rw[<-M];go_wp2;go_ret2;rw[l];exact⟨rfl,H.dsk.later R,Fd.of R⟩
  ·have h:=Y (show eT n (j+1)=0 by unfold eT;rw[if_neg h0,if_neg (by have:=I.o;omega)]);rw[show aJ (eT n (j+1))=.nilIface by rw[h];rfl];have l:=Y (show cu n Z=⟨0,Lib.join ((pks (dY n Z) [] (bM (aC n Z).2)).map pkT) [124],n,Z⟩ by unfold cu;rw[if_neg h0,if_neg (by rw[av];have:=I.o;omega)]);obtain⟨-,e1,e2,f1,f2,f3,A,f5⟩:=T1.later U;obtain⟨-,e3,e4,D,f7,-⟩:=(P h).later D7;rw[Hv] at D f7;have e1:=e1.symm;have e2:=e2.symm;have e3:=e3.symm;have e4:=e4.symm;subst e1 e2 e3 e4;obtain⟨af,hl⟩:∃af,H_ (af=(aC n Z).2):=⟨_,rfl⟩;obtain⟨ab,az⟩:∃ab,H_ (ab=dY n Z):=⟨_,rfl⟩;rw[<-hl] at A f5 D f7 l;rw[<-az] at f1 f2 f3 l;obtain⟨e,G⟩:∃e,H_ (e=pks ab [] (bM af)):=⟨_,rfl⟩;rw[<-G] at l;obtain⟨K,N⟩:∃K,H_ (K=e.length):=⟨_,rfl⟩;have aq:H_ (∀b∈e,PkF b):=(by rw[G];exact qg (by rw[f2];exact H.n2) (by rw[A];exact H.n2) f5);have T:=Y (show K<=32 by
    rw[N.out,G];refine OP (lX _ _ _) ?_;rw[eD,A];exact H.n2)
   have F1:=Y f1;have F6:=Y D;have F4:=Y A;have aH:1<=n:=by omega
   clear f1 f2 f3 A f5 D f7 P T1 h3 h HE h0;have an:r.cell? (J,12)=(a,n,n):=R3.cell 12;have am:r.cell? (L,12)=(q,n,n):=(R1.later U R1.lt).cell 12;obtain⟨c,x⟩:∃c,H_ (c=r.heap.size):=⟨_,rfl⟩;have hA:J.heap.size<c:=by rw[x];exact R3.lt
   have i:L.heap.size<c:=by rw[x];exact OE R1.lt U.size
   have ax:Below c r r:=ce _ _;have ao:=H.n2;go_upto_region 5 with fail;rw[<-M];go_upto_region 7 with fail;go_region_held3 (λv=>v.cell? (J,12)=(a,n,n)/\v.cell? (L,12)=(q,n,n)/\Below c r v)
    (first|with_reducible assumption|exact⟨an,am,ax.drew⟩)
    (first|(go_at_call 56;(with_reducible refine(MO hA i x F6 ao (by assumption)).mono ?_);rintro p aO ⟨a6,c6,rfl,P6,aj⟩)|(go_at_call 55;(with_reducible refine(Nw hA i x F1 ao aH F4 G N (by assumption) P6).mono ?_);rintro p z ⟨a7,c7,rfl,Q7,aj⟩))
   all_goals
    have D9:=Y (R.trans (aj.2.2.mono (by have h5:=R.size;have h6:=x.o;omega)));clear aj ax hA i an am P6 F6 F1;have HT:H_ (jb z z Zs []):=t8 z _ 9 1;have HG:=Y (H.gv.later D9 H.gv.2.2.2);go_upto_region 12 with fail;go_loopw [10,50] (λV ak wr=>∃(k:Nat) (y:Option A_) (O:Nat),ak=Zb (k:Int)/\V=(y,k,O)/\k<=K/\H_ (jb wr z (y,k,O) ((e.take k).map (λb=>⟨(pkT b).toArray⟩)))/\H_ (OS z wr)) (λ_ ak _=>K-(intOf ak).toNat)
    case atStart=>exact⟨0,_,_,rfl,rfl,ol _,HT,(ce _ _)⟩
    case round=>
     obtain⟨k,y,O,rfl,rfl,hk,hO,i⟩:=hrel;by_cases aG:k<K
     ·have aP:(k:Int)<K:=by omega
      have aN:=T.o;have⟨aM,aK,b,ha,aI,u,x0,x1,x2,x3,x4,x5,x6,x7,x8,x9,ay⟩:=(Q7.later i).at_ k aG;subst ha;have HX:=Y u;have h:=Y (aq b (OR u));clear u;have⟨V1,E⟩:=ZX (wr.alloc (.cells (Zp b.at_ b.kind b.from_ b.d) 109));have X1:=bxA E;have B1:H_ (OS z V1):=(by rw[E];exact i.alloc i.size _);have O1:H_ (jb V1 z (y,k,O) ((e.take k).map (λb=>⟨(pkT b).toArray⟩))):=(by rw[E];exact World.ownsRow.alloc hO _);have HP:=Y (Fg (HG.later B1 HG.2.2.2) ⟨by have:=h.a0;omega,by have:=h.a1;omega⟩ ⟨by have:=h.k0;omega,by have:=h.k1;omega⟩ ⟨by have:=h.f0;omega,by have:=h.f1;omega⟩ h.d8);simp only[Pk.arr] at HP;go_upto_region 14 with fail;rw[<-E];clear x0 x1 x2 x3 x4 x5 x6 x7 x8 x9 ay;have⟨y0,y1,y2,y3,y4,y5,y6,y7,y8,y9,aA⟩:=X1.cE;go_wp2_with fail;refine HP.mono ?_;clear HP;rintro p V2 ⟨rfl,E2⟩;have B2:=Y (B1.t E2);have O2:=Y (aW O1 E2);have HL:=Y (show((e.take k).map (λb=>(⟨(pkT b).toArray⟩:ByteArray))).length=k by rw[pm,OM,<-N.out];omega);obtain⟨ae,hT⟩:∃ae:List ByteArray,H_ (ae=(e.take k).map (λb=>⟨(pkT b).toArray⟩)):=⟨_,rfl⟩;rw[<-hT] at O2 HL;have W:=Y B2.size;clear y0 y1 y2 y3 y4 y5 y6 y7 y8 y9 aA;go_wp2_with (at_builtin;refine gX rfl rfl (n:=z) (o:=ae) ?o1 ⟨(pkT b).toArray⟩ ?o2 ?o3 ?o4 ?_);case o1=>exact O2
      case o2=>rfl
      case o3=>rw[HL];have:=T.o;omega
      case o4=>exact W
      rw[HL];intro aB c2 V3 ai aw;rw[hT,show(e.take k).map (λb=>(⟨(pkT b).toArray⟩:ByteArray))++[⟨(pkT b).toArray⟩]=(e.take (k+1)).map (λb=>⟨(pkT b).toArray⟩) by rw[up,HX,le];rfl] at ai;have O3:=Y ai;have B3:=Y (B2.grown aw W (λk hk=>(World.ownsRow.lt O2 k hk).1));clear ai aw;go_wp2;go_roundw
      case rel=>exact⟨k+1,some aB,c2,by go_num,rfl,by omega,O3,B3⟩
      case measure=>simp[intOf];omega
     ·obtain rfl:k=K:=by omega
      have e9:e.take k=e:=OL (by rw[<-N.out];exact OJ _);rw[e9] at hO;have⟨ah,al,au⟩:=hO.read;have HJ:=Y (pS ⟨#[124]⟩ wr ah al au (by have:=T.o;omega) (by
       refine OP (join_le 124 100 _ (λv u=>?_)) ?_
       ·rw[List.map_map] at u
        obtain⟨b,hq,rfl⟩:=m8.1 u;exact wU (aq b hq)
       ·rw[pm,ah];have:=T.o;omega))
      rw[List.map_map,show(tx ∘ λb=>(⟨(pkT b).toArray⟩:ByteArray))=pkT from rfl,show tx ⟨#[124]⟩=[124] from rfl] at HJ;obtain⟨ar,hJ⟩:∃ar:Tx,H_ (ar=Lib.join (e.map pkT) [124]):=⟨_,rfl⟩;rw[<-hJ] at HJ l;clear ah al au e9;go_wp2_with fail;refine HJ.mono ?_;rintro p aF ⟨rfl,aD⟩;have DF:=Y (show OS w aF from(D9.t i).trans (aD.mono (OP D9.size i.size)));go_wp2;go_ret2;rw[l];exact⟨rfl,H.dsk.later DF,Fd.of DF⟩
end
theorem zK(h:∀a∈l,by8 a)(hd:by8 d):∀a∈dh m l x d,by8 a:=λa b=>by
 unfold dh at b;split at b
 ·rcases TR b with h1|h1
  ·exact h a h1
  ·rw[h1];exact hd
 ·exact h a b
theorem xB(n:Nat):∀(c:List De) (st:List (List B8)×List B8),(∀y∈c,y.ok)->(∀l∈st.1,∀x∈l,by8 x)->(∀x∈st.2,by8 x)->(∀l∈(c.foldl (dL n) st).1,∀x∈l,by8 x)/\∀x∈(c.foldl (dL n) st).2,by8 x
 |[],st,_,h1,h2=>⟨h1,h2⟩
 |y::r,st,hd,h1,h2=>by
  refine xB n r (dL n st y) (λz e=>hd z (gt _ e)) ?_ ?_
  ·unfold dL doS
   split
   ·intro l a
    rcases ip.1 a with a|a
    ·exact h1 l a
    ·rw[i5.1 a];exact h2
   ·exact h1
  ·unfold dL doN
   have d:=(hd y li).b8;split
   ·exact zK h2 d
   ·split
    ·exact zK h2 bW
    ·split
     ·intro x b
      rw[Oy] at b;cases hg:st.1[st.1.length-1]? with
      |none=>rw[hg] at b;cases b
      |some l=>rw[hg] at b;exact h1 l (OR hg) x b
     ·exact h2
theorem js(n:Nat)(h:∀y∈Z,y.ok):(∀l∈(aC n Z).1,∀x∈l,by8 x)/\∀x∈(aC n Z).2,by8 x:=by
 have a:∀x∈List.replicate n zB,by8 x:=λx c=>by rw[List.eq_of_mem_replicate c];exact bW
 exact xB n Z _ h (λl b=>by rw[i5.1 b];exact a) a
theorem ze(n:Nat)(h:∀U∈Z,U.ok):by8 (doD n (aC n Z).2 U):=by
 unfold doD;split
 ·unfold gm;split
  ·rw[Oy]
   cases hg:(aC n Z).2[U.at_.toNat]? with
   |none=>exact bW
   |some x=>exact(js n h).2 x (OR hg)
  ·exact bW
 ·exact bW
theorem Fq{K:Tx}(G:Rdy v m j K Z)(hs:v.cell? (i,h)=some (.string X)):
 C_ prog 18 #[(m,0),(i,h,1,c)] v λl R=>H_ (CmP v m K (aT j Z 2 (tx X)) l R):=by
 have HN:=Y (mV X v);have H:=Y G;clear G;go_enter func18,ntmps18;go_wp2_with fail;refine HN.mono ?_;rintro l w1 ⟨rfl,r⟩;have⟨V,u⟩:=ZX (bZ (tx X));rw[<-u];by_cases h0:cr (tx X)=0
 ·rw[show aJ (cr (tx X))=.nilIface by rw[h0];rfl];have q:=Y (show aT j Z 2 (tx X)=aS j Z ⟨2,(V:Int),0,zB⟩ by unfold aT;rw[eX h0,<-u]);have o:=Y (H.later r);have⟨N,p⟩:=ZX ((aS j Z ⟨2,(V:Int),0,zB⟩).e);have L:=Y (zM o.dsk o.n2 o.m o.gv (De.okN 2 V (by rw[u];exact gh _) zB bW) p);clear h0;go_wp2_with fail;refine L.mono ?_;rintro l O C;obtain⟨x,P,sf,bk,oa,on,oc,rfl,J,D,F⟩:=C.o;have E:=Y J;have Q:=Y D;have F3:=Y ((Fd.of r).trans F);have ab:H_ (∀y∈Z,y.ok):=(by have⟨_,_,_,_,_,a⟩:=H.dsk;exact a.sc.1.2.1);clear C J D F L;have⟨U,e⟩:=ZX (O.alloc (.cells #[Zi,Za x.z0,Za x.z1,Za x.z2,Za x.z3,Za x.z4,Za x.z5,Za x.z6,Za x.z7,P,sf,bk,(oa,on,oc)] 95));have b:=bxA e;have A:=beA e;have M:=Y (F3.trans (Fd.of A));have I:=Y (Q.later A);by_cases h1:N=0
  ·have s:=Y (show aS j Z ⟨2,(V:Int),0,zB⟩=⟨0,fp x,j,(aS j Z ⟨2,(V:Int),0,zB⟩).ds⟩ by
    have a:=p.o;rw[h1] at a;have⟨_,S⟩:=E h1;rw[S];unfold aS at a ⊢;split at a
    ·cases a
    ·split at a
     ·cases a
     ·split at a
      ·exact absurd a.symm (by assumption)
      ·rw[UX (by assumption),UX (by assumption),UX (by assumption),UY rfl])
   have ad:H_ (by8 x):=(by rw[(E h1).2];exact ze j ab);subst h1;rw[show aJ 0=.nilIface from rfl];have c1:=b.cell 1;have c2:=b.cell 2;have c3:=b.cell 3;have c4:=b.cell 4;have c5:=b.cell 5;have c6:=b.cell 6;have c7:=b.cell 7;have W:=b.cell 8;simp only[OB,OA,Oz] at c1 c2 c3 c4 c5 c6 c7 W;have T:=Y (sZ ad U);go_upto_region 7 with fail;rw[<-e];go_wp2_with fail;refine T.mono ?_;rintro l w4 ⟨rfl,B⟩;go_wp2;refine UM (v:=.tuple #[.string ⟨(fp x).toArray⟩,Zn]) (by simp[results,results18,go_sem]) rfl (Y ?_);rw[q,s];exact⟨rfl,I.later B,M.trans (Fd.of B)⟩
  ·have s:=Y (vD (x:=⟨2,(V:Int),0,zB⟩) (by rw[<-p];exact h1));rw[ki h1];go_upto_region 5 with fail;rw[<-e];go_wp2;refine UM (v:=.tuple #[.string ⟨#[]⟩,Zf N]) (by simp[results,results18,go_sem]) rfl (Y ?_);rw[q];unfold CmP;rw[<-p,ki h1,s.2.2,C3];exact⟨rfl,I,M⟩
 ·have q:=Y (show aT j Z 2 (tx X)=⟨3,[],j,Z⟩ by unfold aT;rw[(eR h0).1]);rw[show aJ (cr (tx X))=.iface 70 (.int .i64 3) by rw[(eR h0).2.1];rfl];clear h0;go_wp2;refine UM (v:=.tuple #[.string ⟨#[]⟩,Zf 3]) (by simp[results,results18,go_sem]) rfl (Y ?_);rw[q];exact⟨rfl,H.dsk.later r,Fd.of r⟩
section
open Go.Maps (Keyed)
open Go.ChangeMaps (setBlock)
variable {w:W_}
theorem sC(h:X.size<=5000):∃l,keyOf prog 9 (.string X)=some l:=by
 unfold keyOf;rw[Tryz.underlying9];simp only[mapKey,Tryz.underlying9];rw[UY (by unfold maxLen;omega)];exact⟨_,rfl⟩
theorem oF:Keyed prog 9:=Go.Maps.string_keyed Tryz.underlying9
def ent:Nat→List (Mx.Tx × V_)→List MapEntry
 | _, [] => []
 | i, (k, v) :: r => ⟨.string ⟨k.toArray⟩, v, i⟩ :: ent (i + 1) r
theorem vH(k:Tx)(v:V_):∀(l:List (Tx×V_)) (i:Nat),ent i (l++[(k,v)])=ent i l++[⟨.string ⟨k.toArray⟩,v,i+l.length⟩]
 |[],_=>rfl
 |(a,b)::r,i=>by
  show _::ent (i+1) (r++[(k,v)])=_::(ent (i+1) r++_)
  rw[vH k v r (i+1),fd,show i+1+r.length=i+(r.length+1) by omega]
theorem lQ:∀(l:List (Tx×V_)) (i:Nat),(ent i l).map (·.key)=l.map (λx=>Value.string ⟨x.1.toArray⟩)
 |[],_=>rfl
 |(a,b)::r,i=>by show _::(ent (i+1) r).map _=_;rw[lQ r (i+1)];rfl
theorem pO:∀(l:List (Tx×V_)) (i:Nat),(ent i l).map (·.born)=List.range' i l.length
 |[],_=>rfl
 |(a,b)::r,i=>by show _::(ent (i+1) r).map _=_;rw[pO r (i+1)];rfl
theorem Dg:∀(l:List (Tx×V_)) (i j:Nat) (x:Tx×V_),l[j]?=x->(ent i l)[j]?=some ⟨.string ⟨x.1.toArray⟩,x.2,i+j⟩
 |(a,b)::r,i,0,x,h=>by cases h;rfl
 |(a,b)::r,i,j+1,x,h=>by
  show(ent (i+1) r)[j]?=_
  rw[Dg r (i+1) j x h,show i+1+j=i+(j+1) by omega]
theorem str_inj{a b:Tx}(h:Value.string ⟨a.toArray⟩=Value.string ⟨b.toArray⟩):a=b:=by simpa using h
theorem Dh{m:Nat}{l:List (Tx×V_)}(h:w.heap[m]?=some (.map (ent 0 l).toArray l.length))(b:(l.map (·.1)).Nodup)(hs:∀x∈l,x.1.length<=10):Mp 9 w m (ent 0 l) l.length:=by
 refine⟨h,λW a=>?_,?_,?_,λW a=>?_⟩
 ·have h1:W.key∈(ent 0 l).map (·.key):=TM a;rw[lQ] at h1;have⟨x,d,e⟩:=m8.1 h1;rw[<-e];exact sC (by have:=hs x d;simp[ByteArray.size];omega)
 ·rw[lQ];have h2:=b;unfold List.Nodup at h2 ⊢;rw[List.pairwise_map] at h2 ⊢;exact h2.imp (λc W=>c (str_inj W))
 ·rw[pO];exact List.nodup_range' (step:=1)
 ·have h1:W.born∈(ent 0 l).map (·.born):=TM a;rw[pO] at h1;have:=List.mem_range'.1 h1;omega
theorem Gg:(v.alloc T).heap[v.heap.size]?=some T:=by
 show(v.heap.push T)[v.heap.size]?=some T;exact Array.getElem?_push_size
theorem sS:setBlock (v.alloc T) v H=v.alloc H:=by
 show({v with heap:=(v.heap.push T).setIfInBounds v H}:W_)={v with heap:=v.heap.push H};congr 1;apply TW;intro i;rw[Uh];split
 ·rename_i h;subst h;simp
 ·rename_i h;simp only[Array.getElem?_push];rw[UX (λW=>h W.symm),UX (λW=>h W.symm)]
theorem cd(d:prog.underlying W=some (.map 9 S))(l:List (Tx×V_))(k:Tx)(v:V_)(b:((l++[(k,v)]).map (·.1)).Nodup)(hs:∀x∈l++[(k,v)],x.1.length<=10):
 (Instr.mapUpdate W (.map (some w)) (.string ⟨k.toArray⟩) v).run prog (w.alloc (.map (ent 0 l).toArray l.length))=.ok () (w.alloc (.map (ent 0 (l++[(k,v)])).toArray (l.length+1))):=by
 have c:(l.map (·.1)).Nodup/\∀x∈l,x.1≠k:=by
  rw[le,List.nodup_append] at b;exact⟨b.1,λx a S=>b.2.2 x.1 (TM a) k (by simp) S⟩
 have e:=Dh (w:=w.alloc (.map (ent 0 l).toArray l.length)) (m:=w) (l:=l) (Gg) c.1 (λx a=>hs x (Ut _ a));have⟨o,j⟩:=sC (X:=⟨k.toArray⟩) (by have p:k.length<=10:=hs (k,v) (by simp);simp[ByteArray.size];omega);rw[e.oI oF d j (λx a=>?_) v]
 ·rw[sS,vH,m9];rfl
 ·intro S;have h1:x.key∈(ent 0 l).map (·.key):=TM a;rw[lQ] at h1;have⟨y,i,h⟩:=m8.1 h1;exact c.2 y i (str_inj (h.trans S))
theorem vG(d:prog.underlying W=some (.map 9 S)){l:List (Tx×V_)}(q:w.heap[m]?=some (.map (ent 0 l).toArray l.length))(i:(l.map (·.1)).Nodup)(hs:∀x∈l,x.1.length<=10)(p:X.size<=5000)(j:(zeroValue S).run prog w=.ok V w):
 (Instr.lookup W (.map (some m)) (.string X) true).run prog w=.ok (match l.findIdx? (λx=>x.1==X.data.toList) with
   |some k=>.tuple #[(l.getD k ([],V)).2,.bool true]
   |none=>.tuple #[V,.bool false]) w:=by
 have e:=Dh q i hs;have⟨v,c⟩:=sC p;cases hf:l.findIdx? (λx=>x.1==X.data.toList) with
 |none=>
  rw[e.tH oF d c (λx a=>?_) j]
  ·rfl
  ·intro t
   have h1:x.key∈(ent 0 l).map (·.key):=TM a;rw[lQ] at h1;have⟨y,r,o⟩:=m8.1 h1;have h2:=List.findIdx?_eq_none_iff.1 hf y r;have b:y.1=X.data.toList:=by
    have h:=o.trans t;simp only[Value.string.injEq] at h;rw[<-h]
   simp[b] at h2
 |some k=>
  have⟨u,s,_⟩:=TY.1 hf;have a:l[k]?=some l[k]:=Ox u;have b:l[k].1=X.data.toList:=by simpa using s
  rw[e.lookup oF d c (Dg l 0 k _ a) (by rw[b]) true];simp[List.getD_eq_getElem?_getD,a]
end
def aZ:List (Mx.Tx × V_):=[([110,101,119],.agg #[.int .i64 1,.func (.func 15) #[] #[]]),([119,114,105,116,101],.agg #[.int .i64 2,.func (.func 16) #[] #[]]),([116,114,105,109],.agg #[.int .i64 1,.func (.func 17) #[] #[]]),([114,101,97,100],.agg #[.int .i64 1,.func (.func 18) #[] #[]]),([98,97,114,114,105,101,114],.agg #[.int .i64 0,.func (.func 19) #[] #[]]),([116,105,99,107],.agg #[.int .i64 0,.func (.func 20) #[] #[]]),([100,101,108,105,118,101,114],.agg #[.int .i64 1,.func (.func 21) #[] #[]]),([108,111,115,101],.agg #[.int .i64 1,.func (.func 22) #[] #[]]),([100,111,117,98,108,101],.agg #[.int .i64 1,.func (.func 23) #[] #[]]),([99,114,97,115,104],.agg #[.int .i64 1,.func (.func 24) #[] #[]]),([115,101,116,116,108,101],.agg #[.int .i64 0,.func (.func 25) #[] #[]]),([112,108,97,110],.agg #[.int .i64 0,.func (.func 26) #[] #[]])]
theorem KI:(aZ.map (·.1)).Nodup:=by decide
theorem eQ:∀x∈aZ,x.1.length<=10:=by
 intro x a;have h:(aZ.map (λx=>x.1.length)).all (·<=10)=true:=by decide
 exact UT (Nm.1 h _ (TM a))
theorem Bi:C_ prog 6 #[] v λI H=>I=Zv (.map (some v))/\H_ (H=v.alloc (.map (ent 0 aZ).toArray 12)):=by
 have R:=run_makeMap (P:=prog) 32 v;have m:=cd (w:=v) Tryz.underlying32 (aZ.take 0) [110,101,119] (.agg #[Zb 1,.func (.func 15) #[] #[]]) (by decide) (λx a=>eQ x (f9 (i:=1) a));rw[show(aZ.take 0).length=0 from rfl,show aZ.take 0++[_]=aZ.take 1 from rfl] at m;rw[show(v.alloc (.map (ent 0 (aZ.take 0)).toArray 0))=v.alloc (.map #[] 0) from rfl] at m;obtain⟨Q,s⟩:∃W:W_,H_ (W=v.alloc (.map (ent 0 (aZ.take 1)).toArray (0+1))):=⟨_,rfl⟩;rw[<-s] at m;have c:=cd (w:=v) Tryz.underlying32 (aZ.take 1) [119,114,105,116,101] (.agg #[Zb 2,.func (.func 16) #[] #[]]) (by decide) (λx a=>eQ x (f9 (i:=2) a));rw[show(aZ.take 1).length=1 from rfl,show aZ.take 1++[_]=aZ.take 2 from rfl] at c;obtain⟨O,y⟩:∃W:W_,H_ (W=v.alloc (.map (ent 0 (aZ.take 2)).toArray (1+1))):=⟨_,rfl⟩;rw[<-y] at c;rw[show(1:Nat)=0+1 from rfl,<-s] at c;have j:=cd (w:=v) Tryz.underlying32 (aZ.take 2) [116,114,105,109] (.agg #[Zb 1,.func (.func 17) #[] #[]]) (by decide) (λx a=>eQ x (f9 (i:=3) a));rw[show(aZ.take 2).length=2 from rfl,show aZ.take 2++[_]=aZ.take 3 from rfl] at j;obtain⟨V,B⟩:∃W:W_,H_ (W=v.alloc (.map (ent 0 (aZ.take 3)).toArray (2+1))):=⟨_,rfl⟩;rw[<-B] at j;rw[show(2:Nat)=1+1 from rfl,<-y] at j;have o:=cd (w:=v) Tryz.underlying32 (aZ.take 3) [114,101,97,100] (.agg #[Zb 1,.func (.func 18) #[] #[]]) (by decide) (λx a=>eQ x (f9 (i:=4) a));rw[show(aZ.take 3).length=3 from rfl,show aZ.take 3++[_]=aZ.take 4 from rfl] at o;obtain⟨K,D⟩:∃W:W_,H_ (W=v.alloc (.map (ent 0 (aZ.take 4)).toArray (3+1))):=⟨_,rfl⟩;rw[<-D] at o;rw[show(3:Nat)=2+1 from rfl,<-B] at o;have e:=cd (w:=v) Tryz.underlying32 (aZ.take 4) [98,97,114,114,105,101,114] (.agg #[Zi,.func (.func 19) #[] #[]]) (by decide) (λx a=>eQ x (f9 (i:=5) a));rw[show(aZ.take 4).length=4 from rfl,show aZ.take 4++[_]=aZ.take 5 from rfl] at e;obtain⟨T,E⟩:∃W:W_,H_ (W=v.alloc (.map (ent 0 (aZ.take 5)).toArray (4+1))):=⟨_,rfl⟩;rw[<-E] at e;rw[show(4:Nat)=3+1 from rfl,<-D] at e;have d:=cd (w:=v) Tryz.underlying32 (aZ.take 5) [116,105,99,107] (.agg #[Zi,.func (.func 20) #[] #[]]) (by decide) (λx a=>eQ x (f9 (i:=6) a));rw[show(aZ.take 5).length=5 from rfl,show aZ.take 5++[_]=aZ.take 6 from rfl] at d;obtain⟨L,A⟩:∃W:W_,H_ (W=v.alloc (.map (ent 0 (aZ.take 6)).toArray (5+1))):=⟨_,rfl⟩;rw[<-A] at d;rw[show(5:Nat)=4+1 from rfl,<-E] at d;have q:=cd (w:=v) Tryz.underlying32 (aZ.take 6) [100,101,108,105,118,101,114] (.agg #[Zb 1,.func (.func 21) #[] #[]]) (by decide) (λx a=>eQ x (f9 (i:=7) a));rw[show(aZ.take 6).length=6 from rfl,show aZ.take 6++[_]=aZ.take 7 from rfl] at q;obtain⟨U,u⟩:∃W:W_,H_ (W=v.alloc (.map (ent 0 (aZ.take 7)).toArray (6+1))):=⟨_,rfl⟩;rw[<-u] at q;rw[show(6:Nat)=5+1 from rfl,<-A] at q;have l:=cd (w:=v) Tryz.underlying32 (aZ.take 7) [108,111,115,101] (.agg #[Zb 1,.func (.func 22) #[] #[]]) (by decide) (λx a=>eQ x (f9 (i:=8) a));rw[show(aZ.take 7).length=7 from rfl,show aZ.take 7++[_]=aZ.take 8 from rfl] at l;obtain⟨X,z⟩:∃W:W_,H_ (W=v.alloc (.map (ent 0 (aZ.take 8)).toArray (7+1))):=⟨_,rfl⟩;rw[<-z] at l;rw[show(7:Nat)=6+1 from rfl,<-u] at l;have r:=cd (w:=v) Tryz.underlying32 (aZ.take 8) [100,111,117,98,108,101] (.agg #[Zb 1,.func (.func 23) #[] #[]]) (by decide) (λx a=>eQ x (f9 (i:=9) a));rw[show(aZ.take 8).length=8 from rfl,show aZ.take 8++[_]=aZ.take 9 from rfl] at r;obtain⟨N,F⟩:∃W:W_,H_ (W=v.alloc (.map (ent 0 (aZ.take 9)).toArray (8+1))):=⟨_,rfl⟩;rw[<-F] at r;rw[show(8:Nat)=7+1 from rfl,<-z] at r;have h:=cd (w:=v) Tryz.underlying32 (aZ.take 9) [99,114,97,115,104] (.agg #[Zb 1,.func (.func 24) #[] #[]]) (by decide) (λx a=>eQ x (f9 (i:=10) a));rw[show(aZ.take 9).length=9 from rfl,show aZ.take 9++[_]=aZ.take 10 from rfl] at h;obtain⟨J,G⟩:∃W:W_,H_ (W=v.alloc (.map (ent 0 (aZ.take 10)).toArray (9+1))):=⟨_,rfl⟩;rw[<-G] at h;rw[show(9:Nat)=8+1 from rfl,<-F] at h;have b:=cd (w:=v) Tryz.underlying32 (aZ.take 10) [115,101,116,116,108,101] (.agg #[Zi,.func (.func 25) #[] #[]]) (by decide) (λx a=>eQ x (f9 (i:=11) a));rw[show(aZ.take 10).length=10 from rfl,show aZ.take 10++[_]=aZ.take 11 from rfl] at b;obtain⟨S,C⟩:∃W:W_,H_ (W=v.alloc (.map (ent 0 (aZ.take 11)).toArray (10+1))):=⟨_,rfl⟩;rw[<-C] at b;rw[show(10:Nat)=9+1 from rfl,<-G] at b;have p:=cd (w:=v) Tryz.underlying32 (aZ.take 11) [112,108,97,110] (.agg #[Zi,.func (.func 26) #[] #[]]) (by decide) (λx a=>eQ x (f9 (i:=12) a));rw[show(aZ.take 11).length=11 from rfl,show aZ.take 11++[_]=aZ.take 12 from rfl] at p;obtain⟨M,t⟩:∃W:W_,H_ (W=v.alloc (.map (ent 0 (aZ.take 12)).toArray (11+1))):=⟨_,rfl⟩;rw[<-t] at p;rw[show(11:Nat)=10+1 from rfl,<-C] at p;go_enter func6,ntmps6;go_wp2_with fail;go_ret;exact⟨rfl,t⟩
section
variable {k f:Nat}
def Way(k f:Nat):Prop:=∀(w:W_)(g n:Nat)(out:Tx)(ds:List De)(ws:List ByteArray)(B:Nat)(v:V_),Rdy w g n out ds->B<w->(∀(j:Nat) x,ws[j]?=some x->w.cell? ⟨B,j,none⟩=some (.string x))->ws.length=(wds.getD k ([],0)).2+1->(1<ws.length->v=(B,1,ws.length-1,ws.length-1))->
 C_ Tryz.prog f #[(g,0),v] w λe w'=>H_ (CmP w g out (cmd n ds k ((ws.map tx).getD 1 []) ((ws.map tx).getD 2 [])) e w')
theorem qx(m:(wds.getD k ([],0)).2=1)(l:∀(w:W_) (g n:Nat) (b:Tx) (c:List De) (e h q:Nat) (s:ByteArray) (t:Tx),Rdy w g n b c->w.cell? (e,h)=some (.string s)->C_ prog f #[(g,0),(e,h,1,q)] w λp o=>H_ (CmP w g b (cmd n c k (tx s) t) p o)):Way k f:=by
 intro w g n b c r B v i u hc d j;rw[m] at d
 match r,d with
 |[a,s],_=>
  rw[j (by simp)];exact l w g n b c B 1 1 s _ i (hc 1 s rfl)
theorem Ct(h:∀(w:W_) (g n:Nat) (a:Tx) (b:List De) (v:V_) (s t:Tx),Rdy w g n a b->C_ prog f #[(g,0),v] w λe d=>H_ (CmP w g a (cmd n b k s t) e d)):Way k f:=
 λw g n a b _ _ v c _ _ _ _=>h w g n a b v _ _ c
theorem J9(y:m<12):∃f,(aZ.getD m ([],V)).2=.agg #[.int .i64 (((wds.getD m ([],0)).2:Nat):Int),.func (.func f) #[] #[]]/\(∀(p:Array V_) (W:W_),(callFunc f p).run prog W=.ok (.enter f p) W)/\H_ (Way m f):=by
 match m,y with
 |0,_=>exact⟨15,rfl,λ_ _=>by kernel_rfl,qx rfl (λw g n d e l o c s t b hs=>BS b (c:=c) hs)⟩
 |1,_=>exact⟨16,rfl,λ_ _=>by kernel_rfl,λw g n d e z B v b x hc q r=>by
  match z,q with
  |[a,s,u],_=>
   rw[r (by simp)];exact BV b (c:=2) x (hc 1 s rfl) (hc 2 u rfl)⟩
 |2,_=>exact⟨17,rfl,λ_ _=>by kernel_rfl,qx rfl (λw g n d e l o c s t b hs=>NH b (c:=c) hs)⟩
 |3,_=>exact⟨18,rfl,λ_ _=>by kernel_rfl,qx rfl (λw g n d e l o c s t b hs=>Fq b (c:=c) hs)⟩
 |4,_=>exact⟨19,rfl,λ_ _=>by kernel_rfl,Ct (λw g n d e v s t b=>IS b (V:=v))⟩
 |5,_=>exact⟨20,rfl,λ_ _=>by kernel_rfl,Ct (λw g n d e v s t b=>NC b (V:=v))⟩
 |6,_=>exact⟨21,rfl,λ_ _=>by kernel_rfl,qx rfl (λw g n d e l o c s t b hs=>IT b (c:=c) hs)⟩
 |7,_=>exact⟨22,rfl,λ_ _=>by kernel_rfl,qx rfl (λw g n d e l o c s t b hs=>Nz b (c:=c) hs)⟩
 |8,_=>exact⟨23,rfl,λ_ _=>by kernel_rfl,qx rfl (λw g n d e l o c s t b hs=>KU b (c:=c) hs)⟩
 |9,_=>exact⟨24,rfl,λ_ _=>by kernel_rfl,qx rfl (λw g n d e l o c s t b hs=>BU b (c:=c) hs)⟩
 |10,_=>exact⟨25,rfl,λ_ _=>by kernel_rfl,Ct (λw g n d e v s t b=>yC b (V:=v))⟩
 |11,_=>exact⟨26,rfl,λ_ _=>by kernel_rfl,Ct (λw g n d e v s t b=>Fp b (V:=v))⟩
