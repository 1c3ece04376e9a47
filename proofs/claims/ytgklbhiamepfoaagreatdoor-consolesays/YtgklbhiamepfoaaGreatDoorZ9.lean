import Derived.Deep.RegionHeld
import Derived.Deep.DeepCutAuto
import Derived.Deep.Onto
import Derived.Test.YtgklbhiamepfoaaGreatDoorZ8
set_option maxHeartbeats 16000000
set_option maxRecDepth 100000
namespace Go.Proofs.YtgklbhiamepfoaaGreatDoor
open Go renaming World->W_,Value->V_,Calls->C_,Addr->A_
open Go.RowKit renaming Hid->H_
open Go.Proofs.Tryz Mx
variable {m c j h b o:Nat}{v W:W_}{l:List B8}{Z C:List Pt}{a q:Option A_}{V u T s r p f e:V_}{d B:B8}{y z A:Int}{X:TypeId}{U:Act}{S:Pt}{R:Array V_}{Q:Exit->Act->W_->Prop}{P H:Code}{O K:Operand}{N:Array Oper}{L:Oper}{J:List V_}{I:Ending->W_->Prop}{G:A_}{F:Obj}{E:Exit→Act→W_→Prop}{D:Option Nat}
section
open Go.RowKit
variable {w w' w1:W_}{g n:Nat}{cs:Array V_}{t:TypeId}{s0 s1 s2 v1 v2:V_}
def Bx(w:W_)(g:Nat)(cs:Array V_)(t:TypeId):Prop:=w.heap[g]?=some (.cells cs t (0,0))
theorem Bx.new(w:W_)(cs:Array V_)(t:TypeId):Bx (w.alloc (.cells cs t)) w cs t:=UO w _
theorem Bx.dC(w:W_)(cs:Array V_)(t:TypeId):Bx (w.alloc (.cells cs t)).drew w cs t:=UO w _
theorem Bx.lt(h:Bx w g cs t):g<w:=(co.1 h).1
theorem Bx.alloc{w:W_}{g:Nat}{cs:Array V_}{t:TypeId}(h:Bx w g cs t)(o:Obj):Bx (w.alloc o) g cs t:=(pi w o g h.lt).trans h
theorem Bx.later{B:Nat}(h:Bx w g cs t)(a:Below B w w')(b:g<B):Bx w' g cs t:=(a.block g b).trans h
theorem Bx.cell{w:W_}{g:Nat}{cs:Array V_}{t:TypeId}(h:Bx w g cs t)(j:Nat):w.cell? (g,j)=cs[j]?:=cD h j
theorem Bx.frozen{w:W_}{g:Nat}{cs:Array V_}{t:TypeId}(h:Bx w g cs t)(o:Nat):w.frozen? ⟨g,o,none⟩=false:=by unfold World.frozen?;rw[h];simp
theorem Bx.set(h:Bx w g cs t)(j:Nat)(v:V_):Bx (w.setCell (g,j) v) g (cs.setIfInBounds j v) t:=by
 unfold Bx at*;simp[World.setCell,TU,h]
theorem Bx.other(h:Bx w g cs t)(p:A_)(v:V_)(a:g≠p.block):Bx (w.setCell p v) g cs t:=(jp w p v g a).trans h
theorem Bx.three(h:Bx w g #[s0,s1,s2] t):w.cell? g=s0/\w.cell? (g,1)=s1/\w.cell? (g,2)=s2:=⟨h.cell 0,h.cell 1,h.cell 2⟩
theorem Bx.eight{x:B8}(h:Bx w g x t):
 w.cell? g=Za x.z0/\w.cell? (g,1)=Za x.z1/\w.cell? (g,2)=Za x.z2/\w.cell? (g,3)=Za x.z3/\
 w.cell? (g,4)=Za x.z4/\w.cell? (g,5)=Za x.z5/\w.cell? (g,6)=Za x.z6/\w.cell? (g,7)=Za x.z7:=
 ⟨h.cell 0,h.cell 1,h.cell 2,h.cell 3,h.cell 4,h.cell 5,h.cell 6,h.cell 7⟩
def jB(w1 w w':W_):Prop:=OS w1 w'/\OS w w'
def DC(w:W_)(g:Nat)(s0 s1 s2:V_):Prop:=w.cell? ⟨g,0,none⟩=some s0/\w.cell? ⟨g,1,none⟩=some s1/\w.cell? ⟨g,2,none⟩=some s2/\g<w/\∀o,w.frozen? ⟨g,o,none⟩=false
theorem Bx.dc(h:Bx w g #[s0,s1,s2] t):DC w g s0 s1 s2:=⟨h.cell 0,h.cell 1,h.cell 2,h.lt,h.frozen⟩
abbrev dq(w1:W_)(g:Nat)(s0 s1 s2:V_)(w':W_):Prop:=w'.cell? ⟨g,0,none⟩=some s0/\w'.cell? ⟨g,1,none⟩=some s1/\w'.cell? ⟨g,2,none⟩=some s2/\OS w1 w'
theorem dq.of(hd:Bx w1 g #[s0,s1,s2] t)(h:OS w1 w'):dq w1 g s0 s1 s2 w':=by
 have⟨h0,h1,h2⟩:=(hd.later h hd.lt).three;exact⟨h0,h1,h2,h⟩
theorem dq.alloc{w1 w':W_}{g:Nat}{s0 s1 s2:V_}{t:TypeId}(hd:Bx w1 g #[s0,s1,s2] t)(h:dq w1 g s0 s1 s2 w')(o:Obj):dq w1 g s0 s1 s2 (w'.alloc o):=dq.of hd (h.2.2.2.alloc h.2.2.2.size o)
theorem dq.drew{w1:W_}{g:Nat}{s0 s1 s2:V_}{t:TypeId}(hd:Bx w1 g #[s0,s1,s2] t):dq w1 g s0 s1 s2 w1.drew:=dq.of hd (ce _ _).drew
theorem dq.set(hd:Bx w1 g #[s0,s1,s2] t)(h:dq w1 g s0 s1 s2 w')(p:A_)(a:w1<=p.block)(v:V_):dq w1 g s0 s1 s2 (w'.setCell p v):=dq.of hd (h.2.2.2.setCell a v)
theorem nL(h:Nat)(e:BL w1 a m l)(q:m<=1000000)(hd:Bx w1 g #[s0,s1,s2] t)(o:OS w1 v):
 C_ prog 199 #[(a,m,h)] v λc w'=>∃d b,c=Zv (.slice d m b)/\H_ (ay w' v (.slice d m b) l)/\H_ (jB w1 v w')/\DC w' g s0 s1 s2:=by
 apply(jO h (e.later o) q).mono;rintro c w' ⟨V,rfl,p,f⟩;have⟨d,b,j,_⟩:=aF p;rw[e.1] at j;subst j;have h2:=o.t f;exact⟨d,b,rfl,p,⟨h2,f⟩,(hd.later h2 hd.lt).dc⟩
theorem jP(h:Nat)(r:BL w1 a m l)(p:m<=1000000)(hd:Bx w1 g #[s0,s1,s2] t)(f:Bx v c #[V,u,T] X)(hge:w1<=c)(s:OS w1 v):
 C_ prog 199 #[(a,m,h)] v λj w'=>∃d b,j=Zv (.slice d m b)/\H_ (ay w' v (.slice d m b) l)/\H_ (jB w1 v w')/\DC w' g s0 s1 s2/\H_ (Bx w' c #[V,u,T] X)/\w1<=c/\DC w' c V u T:=by
 apply(nL h r p hd s).mono;rintro j w' ⟨d,b,rfl,y,e,q⟩;have o:=f.later e.2 f.lt;exact⟨d,b,rfl,y,e,q,o,hge,o.dc⟩
theorem te(h:Nat)(e:PL w1 a m Z)(p:m<=1000000)(hd:Bx w1 g #[s0,s1,s2] t)(l:OS w1 v):
 C_ prog 176 #[(a,m,h)] v λc w'=>∃d b,c=Zv (.slice d m b)/\H_ (bt w' v (.slice d m b) Z)/\H_ (jB w1 v w')/\DC w' g s0 s1 s2:=by
 apply(mo h (e.later l) p).mono;rintro c w' ⟨V,rfl,o,f⟩;have⟨d,b,j,_⟩:=aF o;rw[e.1] at j;subst j;have h2:=l.t f;exact⟨d,b,rfl,o,⟨h2,f⟩,(hd.later h2 hd.lt).dc⟩
theorem mq(h:Nat)(q:PL w1 a m Z)(o:m<=1000000)(hd:Bx w1 g #[s0,s1,s2] t)(f:Bx v c #[V,u,T] X)(hge:w1<=c)(r:OS w1 v):
 C_ prog 176 #[(a,m,h)] v λj w'=>∃d b,j=Zv (.slice d m b)/\H_ (bt w' v (.slice d m b) Z)/\H_ (jB w1 v w')/\DC w' g s0 s1 s2/\H_ (Bx w' c #[V,u,T] X)/\w1<=c/\DC w' c V u T:=by
 apply(te h q o hd r).mono;rintro j w' ⟨d,b,rfl,s,e,p⟩;have l:=f.later e.2 f.lt;exact⟨d,b,rfl,s,e,p,l,hge,l.dc⟩
theorem Ag:
 ∀j u,(ig [S])[j]?=some u->(v.alloc (.cells (Zq S.at_ S.d) X)).cell? ((⟨v,0,none⟩:A_).add j)=some u:=by
 intro j u a;have b:(⟨v,0,none⟩:A_).add j=⟨v,j,none⟩:=by unfold Addr.add;split<;>simp_all
 rw[b,lw];simpa[ig,Pt.cs] using a
theorem eF{rest:List Oper}(E:L.guard=none)(r:L.op=.call {callee:=.builtin .append,args:=#[O,K],argTypes:=#[106,106]})(a:Nat)(l:List Pt)(h:bt w a (U.eval O) l)(p:Pt)(A:U.eval K=(w,1,1))(H:l.length<=1000000)(F:a<=w)(q:∀c e w',bt w' a (.slice (some c) (l.length+1) e) (l++[p])->w.grownBy w' (U.eval O).ownBlock->wpList prog N Q rest (U.put L.dst (.slice (some c) (l.length+1) e)) w'):
 wpList prog N Q (L::rest) U (w.alloc (.cells (Zq p.at_ p.d) 123)):=by
 have⟨s,B,u,f,D⟩:=info_parts Tryz.info123;apply UN _ E O K 106 r a 123 s _ 9 16 Tryz.underlying106 B u f D rfl (by decide) (U.eval O) l.length (ig l) rfl (World.ownsRow.alloc h _) ⟨w,0,none⟩ 1 1 (ig [p]) A (by simp[ig,Pt.cs]) (Ag (v:=w) (S:=p) (X:=123)) ts (by unfold maxLen;omega) (by omega) (by simp;omega);intro m w' d b _;have o:bt w' a m (l++[p]):=by
  unfold bt;rw[OC,ig,wt];exact d
 have C:w.grownBy w' (U.eval O).ownBlock:=⟨b.os,b.tape,b.output,by have:=b.size;simp at this;omega,λk y z=>(b.block k (by simp;omega) z).trans (pi w _ k y)⟩;rcases d.2 with ⟨_,j⟩|⟨g,G,J,rfl,I,_⟩
 ·simp at j
 ·exact q _ _ w' o C
theorem aB(h:w.ownsRow m c j V n J)(b:V.ownBlock≠some G.block):(w.setCell G u).ownsRow m c j V n J:=by
 refine⟨h.1,?_⟩;rcases h.2 with h|⟨g,e,l,a,f,d,rest⟩
 ·exact .inl h
 ·exact .inr ⟨g,e,l,a,f,(jp w G u g (λc=>b (by rw[a];exact congrArg some c))).trans d,rest⟩
theorem aU(f:w.ownsRow c j h V n J)(l:Bx w g cs t)(d:j≠t):V.ownBlock≠some g:=by
 rcases f.2 with ⟨a,_⟩|⟨m,p,q,a,_,b,_⟩
 ·rw[a];simp[Value.ownBlock]
 ·rw[a];intro e;have o:m=g:=OG e;subst o;rw[l] at b;cases b
  exact d rfl
def Made(w1 wf:W_)(gn:Nat)(v1 v2 s2:V_)(ls:List B8)(ps:List Pt):Prop:=
 Bx wf gn #[v1,v2,s2] 272/\ay wf w1 v1 ls/\bt wf w1 v2 ps/\OS w1 wf/\w1<=gn/\v1.ownBlock≠some gn/\v2.ownBlock≠some gn/\∀g,v1.ownBlock=some g->v2.ownBlock≠some g
theorem wv(e:Bx v m #[V,u,T] 272)(h1:ay v w1 v1 l)(h2:bt v w1 v2 Z)(c:OS w1 v)(hge:w1<=m)(a:v1.ownBlock≠some m)(b:v2.ownBlock≠some m)(d:∀g,v1.ownBlock=some g->v2.ownBlock≠some g):
 Made w1 (((v.setCell m v1).setCell (m,1) v2).setCell (m,2) s2) m v1 v2 s2 l Z:=
 ⟨((e.set 0 v1).set 1 v2).set 2 s2,aB (aB (aB h1 a) a) a,aB (aB (aB h2 b) b) b,
  ((c.setCell (p:=m) hge v1).setCell (p:=(m,1)) hge v2).setCell (p:=(m,2)) hge s2,hge,a,b,d⟩
theorem Nt{a:W_}(hW:w1<=a.heap.size)(hoB:ay W a v1 l)(hoP:bt v W v2 Z)(hbP:jB w1 W v)(hbB:jB w1 a W):
 Made w1 (v.alloc (.cells #[v1,v2,s2] 272)) v v1 v2 s2 l Z:=by
 have b1:=World.ownsRow.lt hoB;have b2:=World.ownsRow.lt hoP;have e1:=hbP.2.size;have e2:=hbB.1.size;refine⟨Bx.new _ _ _,World.ownsRow.alloc (aW (World.ownsRow.mono hoB hW) hbP.2) _,World.ownsRow.alloc (World.ownsRow.mono hoP e2) _,hbP.1.alloc hbP.1.size _,hbP.1.size,λm=>?_,λm=>?_,λg e1 e2=>?_⟩
 ·have:=(b1 _ m).2;omega
 ·have:=(b2 _ m).2;omega
 ·have:=(b1 _ e1).2;have:=(b2 _ e2).1;omega
theorem Nu{a:W_}(hW:w1<=a.heap.size)(hoB:ay W a v1 l)(hbB:jB w1 a W)(hoP:bt v (W.alloc (.cells #[V,u,T] 272)).heap.size v2 Z)(hbP:jB w1 (W.alloc (.cells #[V,u,T] 272)) v):
 Made w1 (((v.setCell W v1).setCell (W,1) v2).setCell (W,2) s2) W v1 v2 s2 l Z:=by
 have b1:=World.ownsRow.lt hoB;have b2:=World.ownsRow.lt hoP;have e1:=hbP.2.size;have e2:=hbB.1.size;simp only[dl] at b2 e1;refine wv ((Bx.new W #[V,u,T] 272).later hbP.2 (by simp)) (aW (World.ownsRow.alloc (World.ownsRow.mono hoB hW) _) hbP.2) (World.ownsRow.mono hoP (by simp;omega)) hbP.1 e2 (λm=>?_) (λm=>?_) (λg e1 e2=>?_)
 ·have:=(b1 _ m).2;omega
 ·have:=(b2 _ m).1;omega
 ·have:=(b1 _ e1).2;have:=(b2 _ e2).1;omega
theorem Nv(j:ay W (w1.alloc (.cells #[V,u,T] 272)).drew.heap.size v1 l)(f:jB w1 (w1.alloc (.cells #[V,u,T] 272)).drew W)(h:bt v W v2 Z)(a:jB w1 W v):
 Made w1 (((v.setCell w1 v1).setCell (w1,1) v2).setCell (w1,2) s2) w1 v1 v2 s2 l Z:=by
 have b:=World.ownsRow.lt j;have e:=World.ownsRow.lt h;have o:=a.2.size;have c:=f.2.size;have d:(w1.alloc (.cells #[V,u,T] 272)).drew.heap.size=w1+1:=dl _ _;rw[d] at b c;refine wv (((Bx.dC w1 #[V,u,T] 272).later f.2 (by rw[d];omega)).later a.2 (by omega)) (aW (World.ownsRow.mono j (by rw[d];omega)) a.2) (World.ownsRow.mono h (by omega)) a.1 (OJ _) (λm=>?_) (λm=>?_) (λg o c=>?_)
 ·have:=(b _ m).1;omega
 ·have:=(e _ m).1;omega
 ·have:=(b _ o).2;have:=(e _ c).1;omega
theorem FJ{α:Type}(L:List α)(j l d p e f b a:α)(v:o+8<=L.length):
 (((((((L.set o j).set (o+1) l).set (o+2) d).set (o+3) p).set (o+4) e).set (o+5) f).set (o+6) b).set (o+7) a=L.take o++[j,l,d,p,e,f,b,a]++L.drop (o+8):=by
 have u:L=L.take o++((L.drop o).take 8++L.drop (o+8)):=by
  rw[show L.drop (o+8)=(L.drop o).drop 8 by rw[List.drop_drop],qr,qr]
 have q:(L.take o).length=o:=by rw[OM];omega
 have r:((L.drop o).take 8).length=8:=by rw[OM,ge];omega
 generalize L.take o=A at*;generalize (L.drop o).take 8=m at*;generalize L.drop (o+8)=C at*
 match m,r with
 |[b0,b1,b2,b3,b4,b5,b6,b7],_=>
  subst u;subst q;have c:=λ(X:List α) (i:Nat) (V:α)=>TO (s:=A) (t:=X) (A.length+i) V (by omega)
  have h:=λ(X:List α) (V:α)=>TO (s:=A) (t:=X) A.length V (OJ _)
  simp only[Nat.add_sub_cancel_left,TK] at c h;simp only[c,h,i6,pp,Eq,Do,eq]
def aV(w:W_)(g o:Nat)(x:B8):W_:=
 (((((((w.setCell ⟨g,o,none⟩ (Za x.z0)).setCell ⟨g,o+1,none⟩ (Za x.z1)).setCell ⟨g,o+2,none⟩ (Za x.z2)).setCell ⟨g,o+3,none⟩ (Za x.z3)).setCell ⟨g,o+4,none⟩ (Za x.z4)).setCell ⟨g,o+5,none⟩ (Za x.z5)).setCell ⟨g,o+6,none⟩ (Za x.z6)).setCell ⟨g,o+7,none⟩ (Za x.z7)
theorem ay.put(s:ay w j (g,n,m) l)(a:Nat)(h:a<l.length)(x:B8):ay (aV w g (a*8) x) j (g,n,m) (l.set a x):=by
 rcases s.2 with ⟨b,_⟩|⟨c,A,z,b,u,q,B,d,v,y⟩
 ·cases b
 ·simp only[Value.slice.injEq,Option.some.injEq,Addr.mk.injEq,US] at b;obtain⟨rfl,f,rfl⟩:=b;have p:Bx w g z 65:=q;have e:=(((((((p.set (a*8) (Za x.z0)).set (a*8+1) (Za x.z1)).set (a*8+2) (Za x.z2)).set (a*8+3) (Za x.z3)).set (a*8+4) (Za x.z4)).set (a*8+5) (Za x.z5)).set (a*8+6) (Za x.z6)).set (a*8+7) (Za x.z7);refine⟨by rw[cY,t9],.inr ⟨g,m,_,by rw[t9,f],u,e,by rw[t9];omega,d,by simpa using v,?_⟩⟩;have r:bp (l.set a x)=(bp l).take (a*8)++x.cs++(bp l).drop (a*8+8):=pb B8.cs 8 (λ_=>rfl) l a x h;simp only[Array.toList_setIfInBounds,List.take_set];rw[t9,y,FJ (bp l) (o:=a*8) _ _ _ _ _ _ _ _ (by rw[cY];omega),r];rfl
theorem bP(h:Below m w w')(a:m<=g)(o:Nat)(x:B8):Below m w (aV w' g o x):=
 (((((((h.setCell (p:=(g,o)) a _).setCell (p:=(g,o+1)) a _).setCell (p:=(g,o+2)) a _).setCell (p:=(g,o+3)) a _).setCell (p:=(g,o+4)) a _).setCell (p:=(g,o+5)) a _).setCell (p:=(g,o+6)) a _).setCell (p:=(g,o+7)) a _
theorem rY(a:m≠g)(x:B8):(aV w g o x).heap[m]?=w.heap[m]?:=by
 unfold aV;rw[jp _ _ _ _ a,jp _ _ _ _ a,jp _ _ _ _ a,jp _ _ _ _ a,jp _ _ _ _ a,jp _ _ _ _ a,jp _ _ _ _ a,jp _ _ _ _ a]
theorem Bx.aV{w:W_}{g k:Nat}{cs:Array V_}{t:TypeId}(h:Bx w k cs t)(a:k≠g)(o:Nat)(x:B8):Bx (aV w g o x) k cs t:=(rY a x).trans h
theorem ay.form(h:ay w m (a,n,c) l)(p:0<n):∃g,a=some ⟨g,0,none⟩/\m<=g/\g<w.heap.size/\l.length=n/\∀o,w.frozen? ⟨g,o,none⟩=false:=by
 rcases h.2 with ⟨b,_⟩|⟨g,j,f,b,e,d,_⟩
 ·simp only[Value.slice.injEq] at b;omega
 ·simp only[Value.slice.injEq] at b;obtain⟨rfl,rfl,rfl⟩:=b;exact⟨g,rfl,e,(co.1 d).1,rfl,λo=>(show Bx w g f 65 from d).frozen o⟩
theorem ay.at_{w:W_}{d g n j:Nat}{l:List B8}(h:ay w d (g,n,j) l)(k:Nat)(e:k<n):
 ∃x:B8,l[k]?=x/\w.cell? (g,k*8)=Za x.z0/\w.cell? (g,k*8+1)=Za x.z1/\w.cell? (g,k*8+2)=Za x.z2/\
  w.cell? (g,k*8+3)=Za x.z3/\w.cell? (g,k*8+4)=Za x.z4/\w.cell? (g,k*8+5)=Za x.z5/\
  w.cell? (g,k*8+6)=Za x.z6/\w.cell? (g,k*8+7)=Za x.z7:=by
 have⟨p,o,a,m,_⟩:=h.bl;simp only[Value.slice.injEq] at a;obtain⟨rfl,rfl,rfl⟩:=a;have⟨q,r,x,c,_,f,b⟩:=m.at_ k e;simp only[Option.some.injEq,Addr.mk.injEq,US] at c;obtain⟨rfl,rfl⟩:=c;simp only[m9] at b;exact⟨x,f,b⟩
theorem beA(h:H_ (W=v.alloc F)):H_ (OS v W):=by rw[h];exact af
theorem bxA(h:H_ (W=v.alloc (.cells R X))):H_ (Bx W v R X):=by rw[h];exact Bx.new v _ _
abbrev OT(w:W_)(g:Nat):Prop:=Bx w g () 65
abbrev OU(w:W_)(g:Nat)(x:B8):Prop:=Bx w g x 65
abbrev OV(w:W_)(g:Nat)(k a f:Int)(x:B8):Prop:=Bx w g (Zp k a f x) 67
end
section
open Go.RowKit
variable {w:W_}{g:Nat}{t:TypeId}
structure Pk where
 at_:Int
 kind:Int
 from_:Int
 d:B8
def Pk.cs(p:Pk):List V_:=[Zb p.at_,Zb p.kind,Zb p.from_,Za p.d.z0,Za p.d.z1,Za p.d.z2,Za p.d.z3,Za p.d.z4,Za p.d.z5,Za p.d.z6,Za p.d.z7]
def jW(l:List Pk):List V_:=l.flatMap Pk.cs
theorem Dp{l:List Pk}:∀u∈jW l,u.oneCell'=true:=by
 intro u b;have⟨x,_,a⟩:=If.1 b;simp[Pk.cs] at a;rcases a with rfl|rfl|rfl|rfl|rfl|rfl|rfl|rfl|rfl|rfl|rfl<;>rfl
def QL(w:W_)(a:Option A_)(n:Nat)(l:List Pk):Prop:=l.length=n/\dt w a n 11 (jW l)
def dA(w:W_)(base:Nat)(v:V_)(l:List Pk):Prop:=w.ownsRow base 109 11 v l.length (jW l)
theorem QL.later{w w':W_}{a:Option A_}{n:Nat}{l:List Pk}(h:QL w a n l)(b:OS w w'):QL w' a n l:=⟨h.1,h.2.later b⟩
theorem dA.nil(w:W_)(a:Nat):dA w a Zs []:=t8 w a 109 11
theorem dA.ql{l:List Pk}(h:dA w m V l):∃a c,V=.slice a l.length c/\QL w a l.length l:=by
 have⟨a,c,b,_,d,_⟩:=aF h;exact⟨a,c,b,rfl,d⟩
theorem QL.at_{w:W_}{c:Option A_}{n:Nat}{l:List Pk}(h:QL w c n l)(k:Nat)(r:k<n):
 ∃b a,∃p:Pk,c=some ⟨b,a,none⟩/\b<w.heap.size/\l[k]?=p/\w.cell? ⟨b,a+k*11,none⟩=Zb p.at_/\w.cell? ⟨b,a+k*11+1,none⟩=Zb p.kind/\w.cell? ⟨b,a+k*11+2,none⟩=Zb p.from_/\
  w.cell? ⟨b,a+k*11+3,none⟩=Za p.d.z0/\w.cell? ⟨b,a+k*11+4,none⟩=Za p.d.z1/\w.cell? ⟨b,a+k*11+5,none⟩=Za p.d.z2/\w.cell? ⟨b,a+k*11+6,none⟩=Za p.d.z3/\w.cell? ⟨b,a+k*11+7,none⟩=Za p.d.z4/\w.cell? ⟨b,a+k*11+8,none⟩=Za p.d.z5/\w.cell? ⟨b,a+k*11+9,none⟩=Za p.d.z6/\w.cell? ⟨b,a+k*11+10,none⟩=Za p.d.z7:=by
 have⟨h0,h1,h2,q⟩:=h;have⟨b,a,o,f,hc⟩:=q (by omega);have d:l[k]?=l[k]:=Ox (by omega);have e:=λj (m:j<11)=>dJ Pk.cs (λ_=>rfl) l k _ d m
 refine⟨b,a,l[k],o,f,d,?_,?_,?_,?_,?_,?_,?_,?_,?_,?_,?_⟩
 ·exact hc (k*11) _ (e 0 (by omega))
 ·exact hc (k*11+1) _ (e 1 (by omega))
 ·exact hc (k*11+2) _ (e 2 (by omega))
 ·exact hc (k*11+3) _ (e 3 (by omega))
 ·exact hc (k*11+4) _ (e 4 (by omega))
 ·exact hc (k*11+5) _ (e 5 (by omega))
 ·exact hc (k*11+6) _ (e 6 (by omega))
 ·exact hc (k*11+7) _ (e 7 (by omega))
 ·exact hc (k*11+8) _ (e 8 (by omega))
 ·exact hc (k*11+9) _ (e 9 (by omega))
 ·exact hc (k*11+10) _ (e 10 (by omega))
theorem Tryz.info109:(prog.info? 109).map (λi=>(i.zero,i.size,i.bytes))=some (some (.agg Zk),11,32):=by kernel_rfl
theorem Ah(p:Pk):
 ∀j u,(jW [p])[j]?=some u->(v.alloc (.cells (Zp p.at_ p.kind p.from_ p.d) X)).cell? ((⟨v,0,none⟩:A_).add j)=some u:=by
 intro j u a;have b:(⟨v,0,none⟩:A_).add j=⟨v,j,none⟩:=by unfold Addr.add;split<;>simp_all
 rw[b,lw];simpa[jW,Pk.cs] using a
theorem fV{rest:List Oper}(E:L.guard=none)(r:L.op=.call {callee:=.builtin .append,args:=#[O,K],argTypes:=#[103,103]})(l:List Pk)(f:dA w m (U.eval O) l)(p:Pk)(A:U.eval K=(w,1,1))(H:l.length<=1000000)(F:m<=w)(q:∀b d w',dA w' m (.slice (some b) (l.length+1) d) (l++[p])->w.grownBy w' (U.eval O).ownBlock->wpList prog N Q rest (U.put L.dst (.slice (some b) (l.length+1) d)) w'):
 wpList prog N Q (L::rest) U (w.alloc (.cells (Zp p.at_ p.kind p.from_ p.d) 109)):=by
 have⟨s,B,u,e,D⟩:=info_parts Tryz.info109;apply UN _ E O K 103 r m 109 s _ 11 32 Tryz.underlying103 B u e D rfl (by decide) (U.eval O) l.length (jW l) rfl (World.ownsRow.alloc f _) ⟨w,0,none⟩ 1 1 (jW [p]) A (by simp[jW,Pk.cs]) (Ah (v:=w) p (X:=109)) Dp (by unfold maxLen;omega) (by omega) (by simp;omega);intro j w' c a _;have o:dA w' m j (l++[p]):=by
  unfold dA;rw[OC,jW,wt];exact c
 have C:w.grownBy w' (U.eval O).ownBlock:=⟨a.os,a.tape,a.output,by have:=a.size;simp at this;omega,λk y z=>(a.block k (by simp;omega) z).trans (pi w _ k y)⟩;rcases c.2 with ⟨_,h⟩|⟨g,G,J,rfl,I,_⟩
 ·simp at h
 ·exact q _ _ w' o C
def Pk.arr(p:Pk):Array V_:=(Zp p.at_ p.kind p.from_ p.d)
def bU(w:W_)(g:Nat)(p:Pk):W_:=((((((((((w.setCell ⟨g,0,none⟩ (Zb p.at_)).setCell ⟨g,1,none⟩ (Zb p.kind)).setCell ⟨g,2,none⟩ (Zb p.from_)).setCell ⟨g,3,none⟩ (Za p.d.z0)).setCell ⟨g,4,none⟩ (Za p.d.z1)).setCell ⟨g,5,none⟩ (Za p.d.z2)).setCell ⟨g,6,none⟩ (Za p.d.z3)).setCell ⟨g,7,none⟩ (Za p.d.z4)).setCell ⟨g,8,none⟩ (Za p.d.z5)).setCell ⟨g,9,none⟩ (Za p.d.z6)).setCell ⟨g,10,none⟩ (Za p.d.z7)
theorem dG{q:Pk}(h:Bx w g q.arr t)(p:Pk):Bx (bU w g p) g p.arr t:=by
 have a:=(((((((((((h.set 0 (Zb p.at_)).set 1 (Zb p.kind)).set 2 (Zb p.from_)).set 3 (Za p.d.z0)).set 4 (Za p.d.z1)).set 5 (Za p.d.z2)).set 6 (Za p.d.z3)).set 7 (Za p.d.z4)).set 8 (Za p.d.z5)).set 9 (Za p.d.z6)).set 10 (Za p.d.z7));have e:(((((((((((q.arr.setIfInBounds 0 (Zb p.at_)).setIfInBounds 1 (Zb p.kind)).setIfInBounds 2 (Zb p.from_)).setIfInBounds 3 (Za p.d.z0)).setIfInBounds 4 (Za p.d.z1)).setIfInBounds 5 (Za p.d.z2)).setIfInBounds 6 (Za p.d.z3)).setIfInBounds 7 (Za p.d.z4)).setIfInBounds 8 (Za p.d.z5)).setIfInBounds 9 (Za p.d.z6)).setIfInBounds 10 (Za p.d.z7))=p.arr:=by simp[Pk.arr]
 rw[e] at a;exact a
theorem bh(h:Below m w v)(a:m≤g)(p:Pk):Below m w (bU v g p):=(((((((((((h.setCell (p:=⟨g,0,none⟩) a _).setCell (p:=⟨g,1,none⟩) a _).setCell (p:=⟨g,2,none⟩) a _).setCell (p:=⟨g,3,none⟩) a _).setCell (p:=⟨g,4,none⟩) a _).setCell (p:=⟨g,5,none⟩) a _).setCell (p:=⟨g,6,none⟩) a _).setCell (p:=⟨g,7,none⟩) a _).setCell (p:=⟨g,8,none⟩) a _).setCell (p:=⟨g,9,none⟩) a _).setCell (p:=⟨g,10,none⟩) a _)
theorem Bx.cE{p:Pk}(h:Bx w g p.arr t):w.cell? g=Zb p.at_/\w.cell? (g,1)=Zb p.kind/\w.cell? (g,2)=Zb p.from_/\w.cell? (g,3)=Za p.d.z0/\w.cell? (g,4)=Za p.d.z1/\w.cell? (g,5)=Za p.d.z2/\w.cell? (g,6)=Za p.d.z3/\w.cell? (g,7)=Za p.d.z4/\w.cell? (g,8)=Za p.d.z5/\w.cell? (g,9)=Za p.d.z6/\w.cell? (g,10)=Za p.d.z7:=⟨h.cell 0,h.cell 1,h.cell 2,h.cell 3,h.cell 4,h.cell 5,h.cell 6,h.cell 7,h.cell 8,h.cell 9,h.cell 10⟩
end
section
open Go.RowKit
variable {k:Nat}
instance:DecidableEq B8:=fun x y=>decidable_of_iff _ (B8.eq_list x y)
namespace Mx
def dI(l:List B8)(b:B8):Int:=if b∈l then(l.idxOf b:Int) else -1
def cF(l:List B8):Int:=if 8<l.length then 2 else if l.Nodup then 0 else 3
theorem nT(h:l[k]?=d)(b:∀j:Nat,j<k->l[j]?≠some d):dI l d=k:=by
 have a:d∈l:=OR h;rw[dI,UY a];congr 1;have p:k<l.length:=(OI.1 h).1;have h1:l.idxOf d<l.length:=List.idxOf_lt_length_of_mem a;have h2:l[l.idxOf d]?=d:=by rw[Ox h1,List.getElem_idxOf h1]
 have m:¬l.idxOf d<k:=λh=>b _ h h2
 have o:¬k<l.idxOf d:=λf=>by
  have c:=List.not_of_lt_findIdx f;have e:=(OI.1 h).2;simp[e] at c
 omega
theorem oZ(b:∀j:Nat,j<l.length->l[j]?≠some d):dI l d=-1:=by
 rw[dI,UX];intro c;have⟨i,a,e⟩:=List.getElem_of_mem c;exact b i a (by rw[Ox a,e])
theorem nB(l:List B8)(b:B8):decide (0<=dI l b)=decide (b∈l):=by
 by_cases h:b∈l
 ·rw[dI,UY h];simp[h]
 ·rw[dI,UX h];simp[h]
theorem A8(h:l[k]?=d)(c:(l.take k).Nodup)(b:d∉l.take k):(l.take (k+1)).Nodup:=by
 rw[az _ _ h,List.nodup_append];refine⟨c,by simp,λx e y a=>?_⟩;rintro rfl;simp at a;subst a;exact b e
theorem Ek(h:l[k]?=d)(a:d∈l.take k):¬l.Nodup:=by
 intro b;have h1:(l.take (k+1)).Nodup:=b.sublist (List.take_sublist _ _);rw[az _ _ h,List.nodup_append] at h1;exact h1.2.2 d a d (by simp) rfl
theorem Dz(h:8<l.length):cF l=2:=by rw[cF,UY h]
theorem AH(a:¬8<l.length)(h:l[k]?=d)(b:d∈l.take k):cF l=3:=by rw[cF,UX a,UX (Ek h b)]
theorem Dy(a:¬8<l.length)(b:l.length<=k)(h:(l.take k).Nodup):cF l=0:=by
 rw[OL b] at h;rw[cF,UX a,UY h]
end Mx
theorem Bx.drewN{w:W_}{g:Nat}{cs:Array V_}{t:TypeId}(h:Bx w g cs t)(n:Nat):Bx (w.drewN n) g cs t:=h
theorem BL.take{w:W_}{b:Option A_}{n:Nat}{l:List B8}(h:BL w b n l)(k:Nat)(q:k<=n):BL w b k (l.take k):=by
 have a:(l.take k).length=k:=by rw[OM,h.1];omega
 refine⟨a,by rw[cY,a],by have:=h.2.2.1;omega,λp=>?_⟩;have⟨d,m,j,f,hc⟩:=h.2.2.2 (by omega);refine⟨d,m,j,f,λo u c=>hc o u ?_⟩;have e:bp l=bp (l.take k)++bp (l.drop k):=by unfold bp;rw[<-wt,qr]
 rw[e,OO (OI.1 c).1];exact c
theorem tr(z:Nat)(x:B8)(f:BL v a m l):
 C_ prog 90 #[(a,m,z),x] v λe w'=>e=Zv (Zb (dI l x))/\OS v w':=by
 have B:m<=maxLen:=f.2.2.1;unfold maxLen at B;have u:=Y f;clear f;go_enter func90,ntmps90;go_wp2;go_loopw [5] (λi wr=>∃k:Nat,k<=m/\i=Zb k/\H_ (∀j:Nat,j<k->l[j]?≠some x)/\H_ (OS v wr/\OU wr v x)) (λi _=>m-(intOf i).toNat)
 case atStart=>exact⟨0,by omega,rfl,λj d=>absurd d (by omega),af,Bx.new _ _ _⟩
 case round=>
  obtain⟨k,P,rfl,o,c⟩:=hrel;by_cases A:k<m
  ·obtain⟨N,V,y,rfl,H,r,S,E,J,T,I,F,U,Q⟩:=(u.later c.1).at_ k A;have⟨K,M,C,O,R,L,D,G⟩:=c.2.eight;have s:=Y r;clear r;have q:=fj y.z0 y.z1 y.z2 y.z3 y.z4 y.z5 y.z6 y.z7 x.z0 x.z1 x.z2 x.z3 x.z4 x.z5 x.z6 x.z7;by_cases b:[y.z0,y.z1,y.z2,y.z3,y.z4,y.z5,y.z6,y.z7]=[x.z0,x.z1,x.z2,x.z3,x.z4,x.z5,x.z6,x.z7]
   ·have h:=Y ((B8.eq_list y x).1 b);rw[UR b] at q;clear b;go_wp2;go_quiet (fail);go_wp2;go_ret;exact⟨by rw[nT (k:=k) (by rw[s,h]) o]<;>rfl,below_drewN c.1 _⟩
   ·have h:=Y (λe=>b ((B8.eq_list y x).2 e));rw[UQ b] at q;clear b;go_wp2;go_quiet (fail);go_wp2;go_roundw
    case rel=>
     refine⟨k+1,by omega,by go_num,λj d e=>?_,below_drewN c.1 _,c.2.drewN _⟩;rcases Uf.1 d with p|p
     ·exact o j p e
     ·subst p;rw[s] at e;exact h (OG e)
    case measure=>simp[intOf];omega
  ·go_wp2;go_ret;exact⟨by rw[oZ (λj d=>o j (by have:=u.1;omega))]<;>rfl,c.1⟩
theorem tE(z:Nat)(x:B8)(f:BL v a m l):
 C_ prog 167 #[(a,m,z),x] v λe w'=>e=Zv (Zb (dI l x))/\OS v w':=by
 have B:m<=maxLen:=f.2.2.1;unfold maxLen at B;have u:=Y f;clear f;go_enter func167,ntmps167;go_wp2;go_loopw [8] (λi wr=>∃k:Nat,k<=m/\i=Zb k/\H_ (∀j:Nat,j<k->l[j]?≠some x)/\H_ (OS v wr/\OU wr v x)) (λi _=>m-(intOf i).toNat)
 case atStart=>exact⟨0,by omega,rfl,λj d=>absurd d (by omega),af,Bx.new _ _ _⟩
 case round=>
  obtain⟨k,P,rfl,o,c⟩:=hrel;by_cases A:k<m
  ·obtain⟨N,V,y,rfl,H,r,S,E,J,T,I,F,U,Q⟩:=(u.later c.1).at_ k A;have⟨K,M,C,O,R,L,D,G⟩:=c.2.eight;have s:=Y r;clear r;have q:=fj x.z0 x.z1 x.z2 x.z3 x.z4 x.z5 x.z6 x.z7 y.z0 y.z1 y.z2 y.z3 y.z4 y.z5 y.z6 y.z7;by_cases b:[x.z0,x.z1,x.z2,x.z3,x.z4,x.z5,x.z6,x.z7]=[y.z0,y.z1,y.z2,y.z3,y.z4,y.z5,y.z6,y.z7]
   ·have h:=Y ((B8.eq_list x y).1 b);rw[UR b] at q;clear b;go_wp2;go_quiet (fail);go_wp2;go_ret;exact⟨by rw[nT (k:=k) (by rw[s,h]) o]<;>rfl,below_drewN c.1 _⟩
   ·have h:=Y (λe=>b ((B8.eq_list x y).2 e));rw[UQ b] at q;clear b;go_wp2;go_quiet (fail);go_wp2;go_roundw
    case rel=>
     refine⟨k+1,by omega,by go_num,λj d e=>?_,below_drewN c.1 _,c.2.drewN _⟩;rcases Uf.1 d with p|p
     ·exact o j p e
     ·subst p;rw[s] at e;exact h (OG e).symm
    case measure=>simp[intOf];omega
  ·go_wp2;go_ret;exact⟨by rw[oZ (λj d=>o j (by have:=u.1;omega))]<;>rfl,c.1⟩
theorem nM(n c:Nat)(x:B8)(d:BL v a n l):
 C_ prog 137 #[(a,n,c),x] v λe w'=>e=Zv (Zl (decide (x∈l)))/\OS v w':=by
 have f:=Y d;go_enter func137,ntmps137;go_wp2_with fail;refine(tE c x (f.later (af))).mono ?_;rintro e w1 ⟨rfl,j⟩;have h:=Y j;have⟨r,b⟩:=ZX (dI l x);rw[<-b];go_wp2;go_ret;refine⟨?_,(af).trans (h.mono (by simp))⟩;rw[<-nB,<-b];try rfl
end
section
open Go.RowKit
theorem mj(f:BL v a m l)(hc:m<=c):
 C_ prog 103 #[(a,m,c)] v λr w'=>r=Zv (aJ (cF l))/\OS v w':=by
 have R:m<=maxLen:=f.2.2.1;unfold maxLen at R;have E:=Y f;have s:=Y f.1;clear f;by_cases h8:(8:Int)<m
 ·go_enter func103,ntmps103;go_wp2;go_ret;exact⟨by rw[Dz (by rw[s];omega)]<;>rfl,ce _ _⟩
 ·have F:=Y (show ¬8<l.length by rw[s];omega);go_enter func103,ntmps103;go_wp2;go_loopw [11] (λi wr=>∃k:Nat,k<=m/\i=Zb k/\H_ ((l.take k).Nodup)/\H_ (OS v wr)) (λi _=>m-(intOf i).toNat)
  case atStart=>exact⟨0,by omega,rfl,by unfold H_;simp,ce _ _⟩
  case round=>
   obtain⟨k,hk,rfl,D,h⟩:=hrel;by_cases M:k<m
   ·obtain⟨u,A,y,rfl,V,B,O,H,L,P,K,I,Q,N⟩:=(E.later h).at_ k M;have C:=Y B;clear B;have ab:(k:Int)<=c:=by omega
    have⟨w1,o⟩:=ZX (wr.alloc (.cells y 65));have d:H_ (OS v w1):=(by rw[o];exact h.alloc h.size _);have J:H_ (OU w1 wr y):=(by rw[o];exact Bx.new _ _ _);have j:=Y (show BL w1 (some ⟨u,A,none⟩) k (l.take k) from(E.later d).take k (by omega));go_wp2;rw[<-o];clear O H L P K I Q N;have⟨W,Z,S,f3,f4,X,T,U⟩:=J.eight;by_cases b:y∈l.take k
    ·have z:=Y (UR b);have q:=Y b;clear b;go_region_with (go_at_call 137;refine(nM (a:=some ⟨u,A,none⟩) k c (l:=l.take k) y ?hbl).mono ?_;(case hbl=>first|exact j|exact j.later (ce _ _).drew);rintro r G ⟨rfl,e⟩;rw[z]);all_goals
      have p:=Y (d.drew.trans (e.mono d.size));clear e;go_wp2;go_ret;exact⟨by rw[AH F C q]<;>rfl,p⟩
    ·have z:=Y (UQ b);have q:=Y b;clear b;go_region_with (go_at_call 137;refine(nM (a:=some ⟨u,A,none⟩) k c (l:=l.take k) y ?hbl).mono ?_;(case hbl=>first|exact j|exact j.later (ce _ _).drew);rintro r G ⟨rfl,e⟩;rw[z]);all_goals
      have p:=Y (d.drew.trans (e.mono d.size));clear e;go_wp2;go_roundw
      case rel=>exact⟨k+1,by omega,by go_num,A8 C D q,p⟩
      case measure=>simp[intOf];omega
   ·go_wp2;go_ret;exact⟨by rw[Dy F (k:=k) (by rw[s];omega) D]<;>rfl,h⟩
end
section
open Go.RowKit
variable {n:Int}{k:Nat}
namespace Mx
def dP:Pt:=⟨0,zB⟩
def cW(ps:List Pt):Nat->Int
 |0=>0
 |k+1=>(ps.getD k dP).at_+1
def fx(n:Int)(ps:List Pt)(k:Nat):Bool:=decide (cW ps k<=(ps.getD k dP).at_) && decide ((ps.getD k dP).at_<n)
def bK(n:Int)(ps:List Pt):Bool:=(List.range ps.length).all (fx n ps)
theorem oC{ps:List Pt}(a:k<ps.length)(h:fx n ps k=false):bK n ps=false:=by
 unfold bK;rw[List.all_eq_false];exact⟨k,IR.2 a,by rw[h];simp⟩
theorem kZ{ps:List Pt}(h:∀k,k<ps.length->fx n ps k=true):bK n ps=true:=by
 unfold bK;rw[Nm];exact λk a=>h k (IR.1 a)
theorem mX(h:bK n Z=true)(a:Z[k]?=S):cW Z k<=S.at_/\S.at_<n:=by
 unfold bK at h;rw[Nm] at h;have h1:=h k (IR.2 (OI.1 a).1);unfold fx at h1;rw[Oy,a] at h1;simpa using h1
def lY(n:Int)(ps:List Pt)(k:Nat):Prop:=∀j,j<k->fx n ps j=true
theorem lI(h:lY n Z k):0<=cW Z k:=by
 induction k with
 |zero=>exact Ug _
 |succ k a=>
  have h1:=h k (by omega);have h2:=a (λj b=>h j (by omega));unfold fx at h1;simp only[LT,UP] at h1;show 0<=(Z.getD k dP).at_+1;omega
theorem pC(h:lY n Z k)(a:fx n Z k=true):lY n Z (k+1):=by
 intro j b;rcases Uf.1 b with h1|h1
 ·exact h j h1
 ·subst h1;exact a
theorem Cb(h:bK n Z=true):lY n Z k\/Z.length<=k:=by
 by_cases b:k<=Z.length
 ·left;intro j a;unfold bK at h;rw[Nm] at h;exact h j (IR.2 (by omega))
 ·right;omega
end Mx
end
section
open Go.RowKit
variable {k n num:Int}{i:Nat}
structure Ep where
 num:Int
 aR:List Pt
structure Bu where
 num:Int
 op:List Pt
 se:List Ep
 be:Bool
namespace Mx
def Rk:Int→List Pt→Prop
 | _, [] => True
 | k, p :: l => k ≤ p.at_ ∧ p.at_ < 32 ∧ Rk (p.at_ + 1) l
def lk:List Pt→Nat→Option B8
 | [], _ => none
 | p :: l, i => if p.at_ = (i : Int) then some p.d else lk l i
def dS:List Pt→Pt→List Pt
 | [], p => [p]
 | q :: l, p => if q.at_ < p.at_ then q :: dS l p else if q.at_ = p.at_ then p :: l else p :: q :: l
def eC(fs:List (Option B8))(ps:List Pt):List (Option B8):=ps.foldl (λfs p=>fs.set p.at_.toNat (some p.d)) fs
def bj:Nat→List (Option B8)→List Pt
 | _, [] => []
 | k, none :: fs => bj (k + 1) fs
 | k, some d :: fs => ⟨(k : Int), d⟩ :: bj (k + 1) fs
def toL (k m:Nat) (ps:List Pt):List (Option B8):=(List.range' k m).map (lk ps)
theorem rO(k:Nat)(l m:List (Option B8)):bj k (l++m)=bj k l++bj (k+l.length) m:=by
 induction l generalizing k with
 |nil=>simp[bj]
 |cons o l a=>
  cases o with
  |none=>
   rw[i6,bj,bj,a,fd,show k+1+l.length=k+(l.length+1) by omega]
  |some d=>
   rw[i6,bj,bj,a,fd,show k+1+l.length=k+(l.length+1) by omega,i6]
theorem oD(h:Rk k Z):∀q∈Z,k<=q.at_/\q.at_<32:=by
 induction Z generalizing k with
 |nil=>intro q a;cases a
 |cons p Z b=>
  intro q a;rcases ro.1 a with rfl|a
  ·exact⟨h.1,h.2.1⟩
  ·have h1:=b h.2.2 q a;have h2:=h.1;exact⟨by omega,h1.2⟩
theorem Kp(h:Rk k Z)(b:(i:Int)<k):lk Z i=none:=by
 induction Z generalizing k with
 |nil=>rfl
 |cons p Z a=>
  have h1:=h.1;rw[lk,UX (by omega)];exact a h.2.2 (by omega)
theorem xb(m k:Nat)(l:List Pt)(h:Rk (k:Int) l)(c:∀q∈l,q.at_<(k:Int)+m):bj k (toL k m l)=l:=by
 induction m generalizing k l with
 |zero=>
  cases l with
  |nil=>rfl
  |cons p l=>
   have h1:=h.1;have h2:=c p (li ..);exfalso;omega
 |succ m d=>
  unfold toL;rw[List.range'_succ,i7];cases l with
  |nil=>
   rw[show lk [] k=none from rfl,bj];exact d (k+1) [] trivial (λq a=>by cases a)
  |cons p l=>
   by_cases b:p.at_=(k:Int)
   ·rw[show lk (p::l) k=some p.d by rw[lk,UY b],bj];have hc:(List.range' (k+1) m).map (lk (p::l))=toL (k+1) m l:=by
     unfold toL;refine Ux λi e=>?_
     have:=List.mem_range'_1.1 e;rw[lk,UX (by omega)]
    rw[hc,d (k+1) l (by have:=h.2.2;rw[b] at this;exact_mod_cast this) (λq a=>by have:=c q (gt _ a);push_cast at this ⊢;omega)];rw[<-b]
   ·rw[show lk (p::l) k=none by rw[lk,UX b];exact Kp h.2.2 (by have:=h.1;omega),bj];exact d (k+1) (p::l) ⟨by have:=h.1;push_cast;omega,h.2.1,h.2.2⟩ (λq a=>by have:=c q a;push_cast at this ⊢;omega)
theorem zu(l:List Pt)(p:Pt)(i:Nat):lk (dS l p) i=if p.at_=(i:Int) then some p.d else lk l i:=by
 induction l with
 |nil=>rfl
 |cons q l a=>
  rw[dS];split
  ·rw[lk,lk,a];split
   ·rw[UX (by omega)]
   ·rfl
  ·split
   ·rw[lk,lk];split
    ·rfl
    ·rw[UX (by omega)]
   ·rw[lk]
theorem oT(h:Rk k Z)(h1:k<=S.at_)(h2:S.at_<32):Rk k (dS Z S):=by
 induction Z generalizing k with
 |nil=>exact⟨h1,h2,trivial⟩
 |cons q Z b=>
  rw[dS];split
  ·exact⟨h.1,h.2.1,b h.2.2 (by omega)⟩
  ·split
   ·next a=>exact⟨h1,h2,by have:=h.2.2;rw[a] at this;exact this⟩
   ·exact⟨h1,h2,by omega,h.2.1,h.2.2⟩
theorem toL_putR(h1:0<=S.at_)(_:S.at_<32):(toL 0 32 Z).set S.at_.toNat (some S.d)=toL 0 32 (dS Z S):=by
 apply List.ext_getElem?;intro i;unfold toL;rw[List.getElem?_set];simp only[i8,pm,List.length_range'];by_cases c:i<32
 ·rw[List.getElem?_range' c];by_cases a:S.at_.toNat=i
  ·rw[UY a,UY (by omega),UJ,zu,UY (by omega)]
  ·rw[UX a,UJ,UJ,zu,UX (by omega)]
 ·have b:(List.range' 0 32)[i]?=none:=TV (by simp;omega);rw[b];split
  ·rw[UX (by omega)];rfl
  ·rfl
theorem Ga(a l:List Pt)(h:∀q∈a,0<=q.at_/\q.at_<32):eC (toL 0 32 l) a=toL 0 32 (a.foldl dS l):=by
 induction a generalizing l with
 |nil=>rfl
 |cons p a c=>
  have b:=h p (li ..);have h1:=c (dS l p) (λq d=>h q (gt _ d));unfold eC at h1 ⊢;rw[RK,toL_putR b.1 b.2,h1,RK]
theorem xw{ps l:List Pt}(a:Rk 0 l)(h:∀q∈ps,0<=q.at_/\q.at_<32):Rk 0 (ps.foldl dS l):=by
 induction ps generalizing l with
 |nil=>exact a
 |cons p ps c=>
  have b:=h p (li ..);exact c (oT a b.1 b.2) (λq d=>h q (gt _ d))
theorem IM(h:∀q∈Z,q.at_<S.at_):dS Z S=Z++[S]:=by
 induction Z with
 |nil=>rfl
 |cons q Z b=>rw[dS,UY (h q (li ..)),b (λx a=>h x (gt _ a)),i6]
theorem Ax(h:Rk k Z)(b:∀q∈C,q.at_<k):Z.foldl dS C=C++Z:=by
 induction Z generalizing k C with
 |nil=>simp
 |cons p Z c=>
  have h1:=h.1;rw[RK,IM (λq a=>by have:=b q a;omega),c h.2.2 (λq a=>by
   rcases ip.1 a with h2|h2
   ·have:=b q h2
    omega
   ·simp at h2
    subst h2;omega),eq]
  rfl
def jm:List (Option B8):=List.replicate 32 none
theorem El:jm=toL 0 32 []:=by
 rfl
theorem tX(h:∀q∈Z,0<=q.at_/\q.at_<32):bj 0 (eC jm Z)=Z.foldl dS []:=by
 rw[El,Ga Z [] h];have a:=xw (l:=[]) trivial h;exact xb 32 0 _ a (λq b=>by have:=(oD a q b).2;omega)
theorem oH(a:List (Option B8))(p q:List Pt):eC a (p++q)=eC (eC a p) q:=by unfold eC;rw[dT]
theorem IN{p:Pt}(h:Rk 0 Z)(h1:0<=p.at_)(h2:p.at_<32):bj 0 (eC (eC jm Z) [p])=dS Z p:=by
 rw[<-oH,tX (λq b=>by
  rcases ip.1 b with a|a
  ·exact oD h q a
  ·simp at a
   subst a;exact⟨h1,h2⟩),dT,Ax h (λq b=>by cases b)]
 rfl
theorem rQ(h:bK n Z=true)(e:n<=32):Rk 0 Z:=by
 have c:∀m j,Z.length-j=m->Rk (cW Z j) (Z.drop j):=by
  intro m;induction m with
  |zero=>
   intro j b;rw[Pi (by omega)];trivial
  |succ m d=>
   intro j b;have a:j<Z.length:=by omega
   rw[Fn a];have h1:=mX h (Ox a);refine⟨h1.1,by omega,?_⟩;have h2:=d (j+1) (by omega);rw[cW,Oy,Ox a] at h2;exact h2
 exact c Z.length 0 (by omega)
def jY(n num:Int)(len i:Nat)(e:Ep):Bool:=bK n e.aR && decide (e.num=num-len+1+i)
def dE:Ep:=⟨0,[]⟩
def fm(es:List Ep)(num n:Int):Bool:=decide ((es.length:Int)<=num) && (List.range es.length).all (λi=>jY n num es.length i (es.getD i dE))
def uQ(es:List Ep)(num n:Int)(k:Nat):Prop:=∀i,i<k->jY n num es.length i (es.getD i dE)=true
def gy(b:Bu)(n:Int):Bool:=!(b.be && decide (0<b.se.length)) && bK n b.op && fm b.se b.num n
def aY(b:Bu)(n:Int):Int:=
 if n<1\/32<n\/b.num<0\/2147483647<b.num then 1 else if 4<b.se.length then 2 else if gy b n then 0 else 3
theorem vO{a:List Ep}(b:i<a.length)(h:jY n num a.length i (a.getD i dE)=false):fm a num n=false:=by
 unfold fm;rw[Ua];right;rw[List.all_eq_false];exact⟨i,IR.2 b,by rw[h];simp⟩
theorem Hi{es:List Ep}(h:num<es.length):fm es num n=false:=by
 unfold fm;rw[Ua];left;simp;omega
theorem kt{es:List Ep}(h0:(es.length:Int)<=num)(h:uQ es num n es.length):fm es num n=true:=by
 unfold fm;rw[LT];refine⟨by simpa using h0,?_⟩;rw[Nm];exact λi a=>h i (IR.1 a)
theorem Aw{a:List Ep}(h:uQ a num n m)(b:jY n num a.length m (a.getD m dE)=true):uQ a num n (m+1):=by
 intro j c;rcases Uf.1 c with h1|h1
 ·exact h j h1
 ·subst h1;exact b
theorem kj{a:List Ep}(h:fm a num n=true){e:Ep}(b:a[i]?=e):bK n e.aR=true/\e.num=num-a.length+1+i:=by
 unfold fm at h;rw[LT,Nm] at h;have h1:=h.2 i (IR.2 (OI.1 b).1);unfold jY at h1;rw[Oy,b] at h1;simpa using h1
theorem ku{a:List Ep}(h:fm a num n=true):(a.length:Int)<=num:=by
 unfold fm at h;rw[LT] at h;simpa using h.1
def many(b:Bu)(k:Int):Nat:=min (b.num-k).toNat b.se.length
def aX(b:Bu)(k:Int):List Ep:=b.se.drop (b.se.length-many b k)
def gV (b:Bu) (p:Pt):Bu:=⟨b.num,dS b.op p,b.se,b.be⟩
def ew(b:Bu):Bool:=b.be||decide (b.se.length=4)
def cA(b:Bu):Bu:=⟨b.num+1,[],if ew b then [] else b.se++[⟨b.num+1,b.op⟩],ew b⟩
def dj(b:Bu)(k:Int):Bu:=⟨b.num,b.op,aX b k,b.be && decide (k≠b.num)⟩
def eS (es:List Ep):List Pt:=(es.flatMap (·.aR)).foldl dS []
def zBu:Bu:=⟨0,[],[],false⟩
end Mx
end
section
open Go.RowKit
theorem Bx.two(h:Bx v m #[V,u] X):v.cell? m=V/\v.cell? (m,1)=u:=⟨h.cell 0,h.cell 1⟩
theorem xH(a:Bx v m #[y,A] 175)(h1:y<=z)(h2:z<A)(c:A<=1000)(d:0<=y):
 C_ prog 104 #[(m,0),z] v λe w'=>e=Zv (Zl true)/\w'=v.setCell m (Zb (z+1)):=by
 have⟨c0,c1⟩:=a.two;have h:=a.frozen;have f:decide (z<y)=false:=by simp;omega
 have b:decide (A<=z)=false:=by simp;omega
 clear a;go_enter func104,ntmps104;go_wp2;go_ret;exact⟨rfl,rfl⟩
theorem zV(a:Int)(b:Bx v m #[y,z] 175)(h:a<y\/z<=a):
 C_ prog 104 #[(m,0),a] v λe w'=>e=Zv (Zl false)/\w'=v:=by
 have⟨c0,c1⟩:=b.two;clear b;by_cases h1:a<y
 ·have c:decide (a<y)=true:=by simpa using h1
  clear h;go_enter func104,ntmps104;go_wp2;go_ret;exact⟨rfl,rfl⟩
 ·have c:decide (a<y)=false:=by simpa using h1
  have h2:z<=a:=by omega
  have d:decide (z<=a)=true:=by simpa using h2
  clear h;go_enter func104,ntmps104;go_wp2;go_ret;exact⟨rfl,rfl⟩
def Mx.gP(n:Int)(ps:List Pt):Int:=if bK n ps=true then 0 else 1
theorem uv(e:PL v a m Z)(U:j<=1000):
 C_ prog 78 #[(a,m,c),j] v λo w'=>o=Zv (aJ (gP j Z))/\OS v w':=by
 have T:m<=maxLen:=e.2.2.1;unfold maxLen at T;have M:=Y e;have H:=Y e.1;go_enter func78,ntmps78;go_wp2_with fail;go_loopw [12] (λt wr=>∃k:Nat,k<=m/\t=Zb (k:Int)/\H_ (lY j Z k)/\H_ (Bx wr v #[Zb (cW Z k),j] 175)/\H_ (OS v wr)) (λt _=>m-(intOf t).toNat)
 case atStart=>exact⟨0,by omega,rfl,λK L=>absurd L (by omega),Bx.new _ _ _,af⟩
 case round=>
  obtain⟨k,hk,rfl,h,u,d⟩:=hrel;by_cases D:k<m
  ·have⟨ab,ad,p,P,_,C,R,V,e2,e3,X,W,e6,e7,e8⟩:=(M.later d).at_ k D;subst P;have b:=Y (show fx j Z k=(decide (cW Z k<=p.at_) && decide (p.at_<j)) by unfold fx;rw[Oy,C];rfl);have s:=Y (show cW Z (k+1)=p.at_+1 by rw[cW,Oy,C];rfl);have G:=Y (lI h);have⟨z,O⟩:=ZX p.at_;have⟨J,S⟩:=ZX (cW Z k);rw[<-O] at R b s;rw[<-S] at b u G;have⟨w1,f⟩:=ZX (wr.alloc (.cells (Zq z p.d) 123));have l:H_ (Bx w1 v #[J,j] 175):=(by rw[f];exact u.alloc _);have B:H_ (OS v w1):=(by rw[f];exact d.alloc d.size _);go_wp2_with fail;rw[<-f];by_cases E:J<=z/\z<(j:Int)
   ·have N:=Y (pC h (by rw[b];simp;omega));refine(xH l E.1 E.2 (by omega) G).mono ?_;rintro o r ⟨rfl,rfl⟩;have F:H_ (Bx (w1.setCell v (Zb (z+1))) v #[Zb (cW Z (k+1)),j] 175):=(by rw[s];exact l.set 0 _);have I:=Y (B.setCell (p:=v) (OJ v) (Zb (z+1)));have⟨r,Q⟩:=ZX (w1.setCell v (Zb (z+1)));rw[<-Q] at F I ⊢;go_wp2_with fail;go_roundw
    case rel=>exact⟨k+1,by omega,by go_num,N,F,I⟩
    case measure=>simp[intOf];omega
   ·have q:=Y (show gP j Z=1 by
     rw[gP,oC (k:=k) (by rw[H];exact D) (by rw[b,Ua];simp;omega)];rfl)
    refine(zV z l (by omega)).mono ?_;rintro o r ⟨rfl,rfl⟩;go_wp2_with fail;go_ret;exact⟨by rw[q]<;>rfl,B⟩
  ·have q:=Y (show gP j Z=0 by
    rw[gP,kZ (n:=j) (ps:=Z) (λK L=>h K (by have:=H.o;omega))];rfl)
   go_wp2_with fail;go_ret;exact⟨by rw[q]<;>rfl,d⟩
def Mx.gW(n:Nat)(had:List B8):Int:=if n<1\/32<n then 1 else cF had
theorem nA(f:Option A_)(n h:Nat)(d:BL v a m l)(hc:m<=c):
 C_ prog 77 #[(f,n,h),(a,m,c)] v λe w'=>e=Zv (aJ (gW n l))/\OS v w':=by
 have q:=Y d;clear d;by_cases h1:(n:Int)<1
 ·have p:decide ((n:Int)<1)=true:=by simpa using h1
  have b:=Y (show gW n l=1 by rw[gW,UY (by omega)]);go_enter func77,ntmps77;go_wp2;go_ret;exact⟨by rw[b]<;>rfl,ce _ _⟩
 ·have p:decide ((n:Int)<1)=false:=by simpa using h1
  by_cases h2:(32:Int)<n
  ·have j:decide ((32:Int)<n)=true:=by simpa using h2
   have b:=Y (show gW n l=1 by rw[gW,UY (by omega)]);go_enter func77,ntmps77;go_wp2;go_ret;exact⟨by rw[b]<;>rfl,ce _ _⟩
  ·have j:decide ((32:Int)<n)=false:=by simpa using h2
   have b:=Y (show gW n l=cF l by rw[gW,UX (by omega)]);go_enter func77,ntmps77;go_wp2_with fail;refine(mj q hc).mono ?_;rintro e w1 ⟨rfl,o⟩;go_wp2;go_ret;exact⟨by rw[b]<;>rfl,o⟩
def Mx.dX(l:List B8)(b:B8):Int:=if dI l b<0 then 0 else dI l b
def Mx.cn(l:List B8)(b:B8):Bool:=decide (0<=dI l b)
theorem Hh(p:BL v a m l):
 C_ prog 284 #[(a,m,c),d] v λh w'=>h=Zr #[Zb (dX l d),Zl (cn l d)]/\OS v w':=by
 have r:=Y p;clear p;go_enter func284,ntmps284;go_wp2_with fail;refine(tE c d (r.later (af))).mono ?_;rintro h w1 ⟨rfl,o⟩;have j:=Y ((af (v:=v) (P:=.cells d 65)).trans (o.mono (by simp)));clear o;have⟨F,b⟩:=ZX (dI l d);rw[<-b];by_cases q:F<0
 ·have f:=Y (show dX l d=0 by rw[dX,UY (by rw[←b.o];exact q)]);have e:=Y (show cn l d=false by rw[cn,<-b];simp;omega);go_wp2;go_ret2;exact⟨by rw[f,e]<;>rfl,j⟩
 ·have f:=Y (show dX l d=F by rw[dX,UX (by rw[←b.o];exact q),b.o]);have e:=Y (show cn l d=true by rw[cn,<-b];simp;omega);go_wp2;go_ret2;exact⟨by rw[f,e]<;>rfl,j⟩
end
section
open Go.RowKit
theorem oY(H:Nat)(f:PL v a m Z)(N:c<=1000):
 C_ prog 208 #[(a,m,H),c] v λG w'=>G=Zv (Zl (bK c Z))/\OS v w':=by
 have M:m<=maxLen:=f.2.2.1;unfold maxLen at M;have C:=Y f;have r:=Y f.1;clear f;go_enter func208,ntmps208;go_wp2;go_loopw [5,10] (λF t wr=>∃(k:Nat) (b:Int),k<=m/\t=Zb (k:Int)/\F=Zb b/\H_ (b=cW Z k)/\H_ (lY c Z k)/\H_ (OS v wr)) (λ_ t _=>m-(intOf t).toNat)
 case atStart=>exact⟨0,0,by omega,rfl,rfl,rfl,λy A=>absurd A (by omega),ce _ _⟩
 case round=>
  obtain⟨k,b,V,rfl,rfl,L,j,h⟩:=hrel;by_cases q:k<m
  ·have⟨U,ab,p,J,_,o,K,P,S,X,R,Q,e6,W,e8⟩:=(C.later h).at_ k q;subst J;have e:=Y (show fx c Z k=(decide (cW Z k<=p.at_) && decide (p.at_<c)) by unfold fx;rw[Oy,o];rfl);have s:=Y (show cW Z (k+1)=p.at_+1 by rw[cW,Oy,o];rfl);have u:=Y (lI j);have⟨z,I⟩:=ZX p.at_;rw[<-I] at K e s;rw[<-L] at e u;clear o;have l:=Y (h.alloc h.size (.cells (Zq z p.d) 123));by_cases h1:z<b
   ·have D:decide (z<b)=true:=by simpa using h1
    have d:=Y (oC (n:=c) (ps:=Z) (k:=k) (by rw[r];exact q) (by rw[e,Ua];simp;omega));go_wp2;go_ret;exact⟨by rw[d]<;>rfl,l⟩
   ·have D:decide (z<b)=false:=by simpa using h1
    by_cases h2:(c:Int)<=z
    ·have B:decide ((c:Int)<=z)=true:=by simpa using h2
     have d:=Y (oC (n:=c) (ps:=Z) (k:=k) (by rw[r];exact q) (by rw[e,Ua];simp;omega));go_wp2;go_ret;exact⟨by rw[d]<;>rfl,l⟩
    ·have B:decide ((c:Int)<=z)=false:=by simpa using h2
     have E:=Y (pC j (by rw[e];simp;omega));have O:0<=z:=by have:=u.o;omega
     have T:z<1000:=by omega
     go_wp2;go_roundw
     case rel=>exact⟨k+1,z+1,by omega,by go_num,rfl,by rw[s];exact Y rfl,E,l⟩
     case measure=>simp[intOf];omega
  ·have d:=Y (kZ (n:=c) (ps:=Z) (λy A=>j y (by have:=r.o;omega)));go_wp2;go_ret;exact⟨by rw[d]<;>rfl,h⟩
end
section
open Go.RowKit
variable {w1:W_}{v1 s2:V_}
namespace Mx
def aH(ls:List B8)(ps:List Pt):List B8:=ps.foldl (λs p=>s.set p.at_.toNat p.d) ls
theorem dD(b:List B8)(a:List Pt):(aH b a).length=b.length:=by
 induction a generalizing b with
 |nil=>rfl
 |cons p a c=>rw[aH,RK,<- aH,c,t9]
theorem iJ(b:List B8)(a:List Pt)(k:Nat)(p:Pt)(h:a[k]?=p):aH b (a.take (k+1))=(aH b (a.take k)).set p.at_.toNat p.d:=by
 rw[aH,up,h,Option.toList_some,dT,<-aH];rfl
def ep(n:Nat)(ps:List Pt)(left:Int):Int:=if db n ps=0 then(if left=0 then 4 else 0) else db n ps
end Mx
def dy(w1 wf:W_)(gn:Nat)(v1 s2:V_)(ls:List B8):Prop:=
 Bx wf gn #[v1,Zs,s2] 272/\ay wf w1 v1 ls/\OS w1 wf/\w1<=gn
theorem Mu(b:ay v w1.drew.heap.size v1 l)(a:jB w1 w1.drew v):dy w1 (v.alloc (.cells #[v1,Zs,s2] 272)) v v1 s2 l:=
 ⟨Bx.new _ _ _,World.ownsRow.alloc b _,a.1.alloc a.1.size _,a.1.size⟩
theorem Mw(d:ay v (w1.alloc (.cells #[V,u,T] 272)).drew.heap.size v1 l)(b:jB w1 (w1.alloc (.cells #[V,u,T] 272)).drew v):
 dy w1 (((v.setCell w1 v1).setCell (w1,1) Zs).setCell (w1,2) s2) w1 v1 s2 l:=by
 have e:(w1.alloc (.cells #[V,u,T] 272)).drew.heap.size=w1+1:=dl _ _;have c:Bx v w1 #[V,u,T] 272:=(Bx.dC w1 #[V,u,T] 272).later b.2 (by rw[e];omega);have a:=aU d c (by decide);exact⟨((c.set 0 v1).set 1 Zs).set 2 s2,World.ownsRow.mono (aB (aB (aB d a) a) a) (by rw[e];omega),
  ((b.1.setCell (p:=w1) (OJ _) v1).setCell (p:=(w1,1)) (OJ _) Zs).setCell (p:=(w1,2)) (OJ _) s2,OJ _⟩
theorem ay.fz(d:ay v m (j,h,c) l):j<v/\m<=j/\∀o,v.frozen? ⟨j,o,none⟩=false:=by
 rcases d.2 with ⟨a,_⟩|⟨q,p,f,a,e,b,_⟩
 ·cases a
 ·simp only[Value.slice.injEq,Option.some.injEq,Addr.mk.injEq,US] at a;obtain⟨rfl,rfl,rfl⟩:=a;exact⟨(co.1 b).1,e,λo=>(show Bx v j f 65 from b).frozen o⟩
theorem dy.put{w1 b:W_}{e g n c:Nat}{s2:V_}{a:List B8}(h:dy w1 b e (g,n,c) s2 a)(o:Obj)(j:Nat)(m:j<a.length)(x:B8):dy w1 ((aV b g (j*8) x).alloc o) e (g,n,c) s2 (a.set j x):=by
 have p:=aU h.2.1 h.1 (by decide);have l:=(World.ownsRow.lt h.2.1 g rfl).1;have d:=bP h.2.2.1 l (j*8) x;exact⟨(h.1.aV (λf=>p (by rw[f];rfl)) _ x).alloc o,World.ownsRow.alloc (ay.put h.2.1 j m x) o,d.alloc d.size o,h.2.2.2⟩
theorem Dr(hs:BL v a c l)(z:PL v q m Z)(M:-9223372036854775808<=y)(Q:y<=9223372036854775807)(A:ep c Z y=0):
 C_ prog 211 #[.agg #[(a,c,j),(q,m,h),y]] v λo w'=>
  ∃v1,o=Zr #[.agg #[v1,Zs,Zb (less y)],Zn]/\ay w' v v1 (aH l Z)/\OS v w':=by
 obtain⟨L,ai⟩:H_ (db c Z=0)/\¬y=0:=by
  unfold ep at A;split at A
  ·rename_i h1;split at A
   ·omega
   ·rename_i h2;exact⟨h1,h2⟩
  ·contradiction
 have HS:=Y hs;have O:=Y z;have ag:H_ (c<=maxLen):=hs.2.2.1;have X:=Y (TH M Q);obtain⟨ao,aG,aF,ak⟩:1<=c/\c<=200/\m<=800/\H_ (∀p∈Z,0<=p.at_/\p.at_<c):=by
  have⟨h1,h2,h3,h4⟩:=jQ L;exact⟨h1,h2,by rw[<-z.1];exact h3,h4⟩
 have ad:=Y hs.1;have ab:=Y z.1;clear hs z A M Q;have aE:(y==0)=false:=by simpa using ai
 go_enter func211,ntmps211;go_wp2_with fail;refine(iH a j h y Z (O.later ((af).alloc (by simp) _)) ag).mono ?_;rintro o w1 ⟨rfl,r⟩;rw[L,aQ];have b:=Y (show Bx w1 v #[(a,c,j),(q,m,h),y] 272 from((Bx.new v _ 272).alloc _).later r (by simp;omega));have al:=Y (show Bx w1 (v+1) #[Zs,Zs,Zi] 272 from by
  have u:=(Bx.new (v.alloc (.cells #[(a,c,j),(q,m,h),y] 272)) #[Zs,Zs,Zi] 272).later r (by simp);rw[dl] at u;exact u)
 have s:=Y (((af (v:=v) (P:=.cells #[(a,c,j),(q,m,h),y] 272)).alloc (by simp) _).trans (r.mono (by simp;omega)));have az:v.heap.size+2<=w1:=by have:=r.size;simp at this;omega
 clear r;have S:=Y (HS.later s);have an:=Y (O.later s);have⟨f0,f1,f2⟩:=b.three;have au:v<w1.heap.size:=by omega
 have V:=Y (show c<=1000000 by omega);go_wp2_with fail;go_cut [5] (λs5 wx=>∃f D c1,s5=.pointer (some ⟨f,0,none⟩)/\H_ (dy w1 wx f (.slice D c c1) (Zb (less y)) l))
 case first=>
  go_region_held (λw'=>w'.cell? v=(a,c,j)/\w'.cell? (v,1)=(q,m,h)/\w'.cell? (v,2)=Zb y/\OS w1 w')
   (first|exact dq.drew b|exact dq.of b e.1|assumption|(refine dq.alloc b ?_ _;assumption)|exact dq.of b (e.1.alloc e.1.size _)|exact dq.of b ((ce _ _).drew.alloc (OJ _) _)|(refine dq.set b (dq.set b (dq.set b ?_ _ ?_ _) _ ?_ _) _ ?_ _<;>assumption))
   (first|(go_at_call 199;refine(jP (w1:=w1) j S V b (Bx.dC _ _ _) ?hge ?hbS).mono ?_;(case hge=>exact OJ _);(case hbS=>simp only[*]);rintro o W ⟨D,c1,rfl,J,e,⟨q0,q1,q2,q3,q4⟩,aC,ar,N,R,U,r3,r4⟩)|(go_at_call 199;refine(nL (w1:=w1) j S V b ?hbS).mono ?_;(case hbS=>simp only[*]);rintro o W ⟨D,c1,rfl,J,e,q0,q1,q2,q3,q4⟩)|(go_at_call 232;refine(pj X.1 X.2).mono ?_;rintro o wL ⟨rfl,rfl⟩))
  all_goals go_wp2
  all_goals go_meet
  all_goals first
   |exact⟨_,_,_,rfl,Mu J e⟩
   |exact⟨_,_,_,rfl,Mw J e⟩
 case rest=>
 obtain⟨f,D,c1,rfl,C⟩:=hcut;obtain⟨g,rfl,hg,ap,ae,_⟩:=C.2.1.form (by omega);clear ae;have aw:¬f=v.heap.size:=by have:=C.2.2.2;omega
 have⟨d0,d1,d2⟩:=(b.later C.2.2.1 (by omega)).three;clear f0 f1 f2;go_wp2;go_loopw [7,29] (λ_ i wr=>∃k:Nat,k<=m/\i=Zb k/\H_ (dy w1 wr f (.slice (some g) c c1) (Zb (less y)) (aH l (Z.take k)))) (λ_ i _=>m-(intOf i).toNat)
 case atStart=>exact⟨0,by omega,rfl,by simpa[aH] using C⟩
 case round=>
  clear d0 d1 d2;obtain⟨k,hk,rfl,d⟩:=hrel;by_cases am:k<m
  ·have⟨aq,av,p,ah,T,K,e0,e1,e2,e3,e4,e5,e6,e7,e8⟩:=(an.later d.2.2.1).at_ k am;subst ah;have G:=ak p (OR K);have⟨E,H⟩:=TA G.1;have HX:=Y K;have HJ:=Y H;rw[H] at e0 G;clear K H;have ax:(E:Int)<c:=G.2;have⟨aD,_,y0,y1,y2,y3,y4,y5,y6,y7⟩:=d.2.1.at_ E (by omega);have⟨aA,_,yz⟩:=d.2.1.fz;have⟨b0,b1,b2⟩:=d.1.three;have bl:=d.1.lt;have aj:=Y (d.put (.cells (Zq E p.d) 123) E (by rw[dD,ad];omega) p.d);go_wp2;go_roundw
   case rel=>
    refine⟨k+1,by omega,by go_num,?_⟩;unfold H_;rw[iJ l Z k p HX,HJ,m6];exact aj
   case measure=>simp[intOf];omega
  ·obtain rfl:k=m:=by omega
   have F:=Y (show dy w1 wr f (.slice (some g) c c1) (Zb (less y)) (aH l Z) from by
    have u:=d.o;rw[OL (Nat.le_of_eq ab)] at u;exact u)
   have⟨b0,b1,b2⟩:=d.1.three;have B:=Y (al.later d.2.2.1 (by omega));have⟨t0,t1,t2⟩:=B.three;have tz:=B.frozen;go_wp2;have⟨N,R,U⟩:=(show Bx _ _ #[.slice (some g) c c1,Zs,Zb (less y)] 272 from((B.set 0 (.slice (some g) c c1)).set 1 Zs).set 2 (Zb (less y))).three;refine UM (v:=.tuple #[.agg #[.slice (some g) c c1,Zs,.int .i64 (less y)],Zn]) (by simp[results,results211,go_sem,N,R,U]) rfl ⟨_,rfl,?_,?_⟩
   ·have I:=aU F.2.1 B (by decide);exact World.ownsRow.mono (aB (aB (aB F.2.1 I) I) I) s.size
   ·have T:=s.trans (F.2.2.1.mono s.size);exact((T.setCell (p:=(v.heap.size+1,0)) (by simp) _).setCell (p:=(v.heap.size+1,1)) (by simp) _).setCell (p:=(v.heap.size+1,2)) (by simp) _
theorem Ds(r:c<=maxLen)(s:PL v q m Z)(D:¬ep c Z y=0):
 C_ prog 211 #[.agg #[(a,c,j),(q,m,h),y]] v λB w'=>
  B=Zr #[.agg #[Zs,Zs,Zi],aJ (ep c Z y)]/\OS v w':=by
 have G:=Y s;have H:=Y D;have F:=Y r;clear s D r;go_enter func211,ntmps211;go_wp2_with fail;refine(iH a j h y Z (G.later ((af).alloc (by simp) _)) F).mono ?_;rintro B w1 ⟨rfl,e⟩;have J:=Y (show Bx w1 v #[(a,c,j),(q,m,h),y] 272 from((Bx.new v _ 272).alloc _).later e (by simp;omega));have o:=Y (show Bx w1 (v+1) #[Zs,Zs,Zi] 272 from by
  have z:=(Bx.new (v.alloc (.cells #[(a,c,j),(q,m,h),y] 272)) #[Zs,Zs,Zi] 272).later e (by simp);rw[dl] at z;exact z)
 have I:=Y (((af (v:=v) (P:=.cells #[(a,c,j),(q,m,h),y] 272)).alloc (by simp) _).trans (e.mono (by simp;omega)));clear e;have⟨R,K,L⟩:=J.three;have⟨M,N,Q⟩:=o.three;have O:=o.frozen;have⟨u,C,E⟩:=(show Bx _ _ #[Zs,Zs,Zi] 272 from(((o.set 0 Zs).set 1 Zs).set 2 (Zb 0))).three;have A:=Y (((I.setCell (p:=(v.heap.size+1,0)) (by simp) Zs).setCell (p:=(v.heap.size+1,1)) (by simp) Zs).setCell (p:=(v.heap.size+1,2)) (by simp) (Zb 0));by_cases b:db c Z=0
 ·have d:=Y b;rw[b,aQ];clear b;by_cases f:y=0
  ·have l:=Y (show ep c Z y=4 by unfold ep;rw[UY d.o,UY f]);have S:(y==0)=true:=by simpa using f
   clear f;go_wp2;exact UM (v:=.tuple #[.agg #[Zs,Zs,Zi],.iface 70 (.int .i64 4)]) (by simp[results,results211,go_sem,u,C,E]) rfl ⟨by rw[l];rfl,A⟩
  ·exact absurd (show ep c Z y=0 by unfold ep;rw[UY d.o,UX f]) H
 ·have l:=Y (show ep c Z y=db c Z by unfold ep;rw[UX b]);rw[bJ b];have d:=Y b;clear b;go_wp2;exact UM (v:=.tuple #[.agg #[Zs,Zs,Zi],.iface 70 (.int .i64 (db c Z))]) (by simp[results,results211,go_sem,u,C,E]) rfl ⟨by rw[l,bJ d],A⟩
end
section
open Go.RowKit Go.Shelf
attribute [local go_sem] Oper.semAt_some
def du(ps:List Pt)(j:Nat):List (Nat×Pt):=(List.range j).map λi=>(ps.length-1-i,ps.getD (ps.length-1-i) ⟨0,zB⟩)
theorem xR:du Z (j+1)=du Z j++[(Z.length-1-j,Z.getD (Z.length-1-j) ⟨0,zB⟩)]:=by simp[du,Ui]
theorem Ad:(du Z j).length=j:=by simp[du]
def vF(x:Nat×Pt):Array V_:=#[Zb (x.1:Int),.agg (Zq x.2.at_ x.2.d)]
theorem JR(U:1<=c)(hm:m<=1000)(J y:List (Nat×Pt)->W_->Prop)(_:b<=W)(_:h<W)(_:AbidesFrom W J)(D:∀d x W,J d W->d.length<m->YieldAt Fence.wide (c-1) prog j (vF x) W λf e=>
   (f=Zv (Zl true)/\J (d++[x]) e/\KpS b h W e)\/(f=Zv (Zl false)/\y (d++[x]) e))(hBs:W.cell? h=(a,m,o))(L:v<=b)(l:PL v a m Z)(r:OS v W)(h0:J [] W):
 CallsIn Fence.wide c prog 231 #[.func (.yield j) #[] #[],(h,0)] W λf e=>(∃K,f=Zv K)/\
  ((∃z,z=du Z m/\J z e)\/(∃d,(∃k,k<=m/\d=du Z k)/\y d e)):=by
 have H:=Y l;have O:=Y l.1;have R:=Y r;clear l r;refine callsIn_of_wp func231 rfl trivial ?_ rfl;simp only[ntmps231,EQ,fd,ut,Nat.reduceAdd,Nat.reduceSub,ww,AC,LE,fI,pp,i6];gi_wp2;gi_loopw [3] (λi wr=>∃k:Nat,k<=m/\i=Zb ((m:Int)-1-(k:Int))/\J (du Z k) wr/\Below b W wr/\wr.heap[h]?=W.heap[h]?)
  (λi _=>(intOf i+1).toNat)
 case atStart=>exact⟨0,ol _,by simp,h0,ce _ _,rfl⟩
 case round=>
  obtain⟨k,hk,rfl,u,B,p⟩:=hrel;have S:=Y p;have af:wr.cell? h=(a,m,o):=(ii (w:=W) (a:=⟨h,0,none⟩) p).trans hBs;clear p;by_cases N:k<m
  ·obtain⟨i,hi⟩:∃i:Nat,i+1+k=m:=⟨m-1-k,by omega⟩;have P:(m:Int)-1-(k:Int)=(i:Int):=by omega
   have T:=Y (R.trans (B.mono L));have⟨ae,ag,A,Q,hb,C,e0,V,e2,e3,e4,X,e6,e7,e8⟩:=(H.later T).at_ i (by omega);subst Q;have s:=Y (show du Z (k+1)=du Z k++[(i,A)] by
    rw[xR,O,show m-1-k=i by omega,Oy,C];rfl)
   clear C;rw[P];have ad:(0:Int)<=(i:Int):=by omega
   have ab:(i:Int)<(m:Int):=by omega
   have⟨fn,ah,assign,body,I,F⟩:=D (du Z k) (i,A) wr u (by rw[Ad];exact N);unfold vF at I;gi_wp2;apply F.mono;rintro f W3 (⟨rfl,M,q⟩|⟨rfl,E⟩)
   ·gi_wp2;go_roundw
    case rel=>exact⟨k+1,by omega,congrArg (Value.int .i64) (by omega),by rw[s];exact M,B.trans q.1,q.2.trans S⟩
    case measure=>simp[intOf]
   ·gi_wp2;apply UM (results_none rfl _ _ _) rfl;exact⟨⟨_,rfl⟩,.inr ⟨_,⟨k+1,by omega,s.symm⟩,E⟩⟩
  ·obtain rfl:k=m:=by omega
   have G:(k:Int)-1-(k:Int)=-1:=by omega
   rw[G];gi_wp2;go_end0;exact⟨⟨_,rfl⟩,.inl ⟨_,rfl,u⟩⟩
theorem xS:
 CallsIn Fence.wide m prog 204 #[(a,c,j)] v λe w'=>e=Zv (.func (.func 231) #[] #[(v,0)])/\w'=v.alloc (.cells #[(a,c,j)] 106):=by
 refine callsIn_of_wp func204 rfl trivial ?_ rfl;simp only[ntmps204,EQ,fd,ut,Nat.reduceAdd,Nat.reduceSub,ww,AC,LE,fI,pp,i6];gi_wp2;go_ret;exact⟨rfl,rfl⟩
theorem Ae(l:1<=c)(B:m<=1000)(z:v<=h)(q:PL v a m Z)(C:OS v W)(s:h<=W)(e:j<W)(hBs:W.cell? j=(a,m,b)):
 SeqStopsK Fence.wide c prog 231 #[(j,0)] vF (KpS h j) (λA=>A=du Z m) (λu=>∃k,k<=m/\u=du Z k) m W:=λE J r D d y _ f h0 =>
 JR (c:=c) l (j:=E) (h:=j) (b:=h) (o:=b) (m:=m) (a:=a) (Z:=Z) B J r (W:=D) (OP s d.size) (OE e d.size) y f ((d.cell (p:=j) e).trans hBs) (v:=v) z q (C.t d) h0
end
section
open Go.RowKit Go.Shelf
variable {at_:Int}
attribute [local go_sem] Oper.semAt_some
namespace Mx
def eB(ls:List B8)(ps:List Pt)(at_:Int):B8:=
 match ps.reverse.find? (λp=>p.at_==at_) with
 |some p=>p.d
 |none=>ls.getD at_.toNat zB
def jR(n:Nat)(ps:List Pt)(left at_:Int):Int:=if ct n ps at_=0 then(if left=0 then 4 else 0) else ct n ps at_
end Mx
theorem qC(a:m<=Z.length):(du Z m).map Prod.snd=Z.reverse.take m:=by
 apply List.ext_getElem?;intro i;by_cases h:i<m
 ·rw[Uo,UY h,List.getElem?_reverse (by omega)];simp only[du,List.map_map,i8,T8 h];simp[List.getD_eq_getElem?_getD,List.getElem?_eq_getElem (show Z.length-1-i<Z.length by omega)]
 ·rw[TV (by simp[du];omega),TV (by simp;omega)]
theorem yF{a:List (Nat×Pt)}(f:m<=Z.length)(h:a++[(c,S)]=du Z m)(d:S.at_=at_)(b:∀x∈a,x.2.at_≠at_):eB l Z at_=S.d:=by
 have h1:=congrArg (List.map Prod.snd) h;rw[qC f,le] at h1;have h2:Z.reverse=(a.map Prod.snd++[S])++Z.reverse.drop m:=by
  have:=qr m Z.reverse;rw[<-h1] at this;simpa using this.symm
 unfold eB;rw[h2,List.find?_append,List.find?_append,List.find?_eq_none.2 (by
  intro q j;obtain⟨x,e,rfl⟩:=m8.1 j;simpa using b x e)]
 simp[d]
theorem BZ(a:∀x∈du Z Z.length,x.2.at_≠at_):eB l Z at_=l.getD at_.toNat zB:=by
 have h1:=qC (Z:=Z) (m:=Z.length) (OJ _);rw[OL (by simp)] at h1;unfold eB;rw[<-h1,List.find?_eq_none.2 (by
  intro q c;obtain⟨x,b,rfl⟩:=m8.1 c;simpa using a x b)]
def RI(w:W_)(D:Array V_)(at_:Int)(pre:List (Nat×Pt))(W:W_):Prop:=
 Bx W w D 272/\Bx W (w+1) #[Zb at_] 3/\OT W (w+2)/\Bx W (w+3) #[Zn] 38/\OS w W/\w.heap.size+4<=W/\∀x∈pre,x.2.at_≠at_
def RIc(w:W_)(D:Array V_)(at_:Int)(C:Nat)(pre:List (Nat×Pt))(W:W_):Prop:=RI w D at_ pre W/\C<=W
def RIx(w:W_)(at_:Int)(c:Code)(pre:List (Nat×Pt))(W:W_):Prop:=
 c=.ret/\∃pre' i p,pre=pre'++[(i,p)]/\p.at_=at_/\(∀x∈pre',x.2.at_≠at_)/\
  OU W (w+2) p.d/\Bx W (w+3) #[Zn] 38/\OS w W/\w.heap.size+4<=W
def RAx(C:Nat)(T:Array V_)(x:Nat×Pt)(a':Act)(W:W_):Prop:=
 ∃g,C<=g/\Bx W g (Zq x.2.at_ x.2.d) 123/\
  a'={tmps:=((T.setIfInBounds 24 (Zb (x.1:Int))).setIfInBounds 25 (.agg (Zq x.2.at_ x.2.d))).setIfInBounds 8 (.pointer (some ⟨g,0,none⟩)),defers:=[]}
theorem MV(A:v+4<=m):OwnFrom m (RI v R y):=by
 rintro z W s h ⟨f,q,p,l,j,u,d⟩ a c;have b:∀r,h=some r->∃o:Obj,W.heap[r]?=o/\o.isCells=false:=λr e=>(c r e).2
 exact⟨bX f a b,bX q a b,bX p a b,bX l a b,j.grown a (by omega) (λk e=>by have:=(c k e).1;omega),by have:=a.size;omega,d⟩
theorem Lb(e:v+4<=m):OwnFrom m (RIc v R y m):=λd W c b h a f=>⟨MV (R:=R) (y:=y) e d W c b h.1 a f,OP h.2 a.size⟩
theorem Lc(C:v+4<=m):OwnFrom m (RIx v y P):=by
 rintro B W z d ⟨rfl,s,i,p,l,u,f,q,j,h,A⟩ a c;have b:∀r,d=some r->∃o:Obj,W.heap[r]?=o/\o.isCells=false:=λr e=>(c r e).2
 exact⟨rfl,s,i,p,l,u,f,bX q a b,bX j a b,h.grown a (by omega) (λk e=>by have:=(c k e).1;omega),by have:=a.size;omega⟩
theorem KZ(x:Nat×Pt)(a:Act):OwnFrom m (λ(_:Unit) W=>RAx m R x a W):=by
 rintro _ W f h ⟨g,h1,h2,d⟩ b c;exact⟨g,h1,bX h2 b (λr e=>(c r e).2),d⟩
theorem Ft{assign body:Code}(F:U.eval O=.func (.func 231) #[] #[.pointer (some ⟨c,0,none⟩)])(S:m≤1000)(G:PL W a m Z)(z:OS W v)(A:c<v.heap.size)(C:W.heap.size+4≤v.heap.size)(hBs:v.cell? ⟨c,0,none⟩=some (.slice a m j))(h0:RI W R y [] v)(J:∀(l:Nat) (e:List (Nat×Pt)) (x:Nat×Pt) (d:W_) (K:Act→W_→Prop),RIc W R y v.heap.size e d→(∀h o,KeepsFrom v.heap.size d o→KpS W.heap.size c d o→RIc W R y v.heap.size e o→RAx v.heap.size U.tmps x h o→K h o)→
   assign.wpIn (Fence.wide.inRound l) (6-1-1) Tryz.prog (Exit.then K (λ_ _ _=>False)) {tmps:=(U.tmps.setIfInBounds 24 (.int .i64 (x.1:Int))).setIfInBounds 25 (.agg #[.int .i64 x.2.at_,.int .u8 x.2.d.z0,.int .u8 x.2.d.z1,.int .u8 x.2.d.z2,.int .u8 x.2.d.z3,.int .u8 x.2.d.z4,.int .u8 x.2.d.z5,.int .u8 x.2.d.z6,.int .u8 x.2.d.z7]),defers:=[]} d)(N:∀(l:Nat) (e:List (Nat×Pt)) (x:Nat×Pt) (h:Act) (d:W_),RIc W R y v.heap.size e d→RAx v.heap.size U.tmps x h d→e.length<m→
   body.wpIn (Fence.wide.inRound l) (6-1-1) Tryz.prog (ownPostG v.heap.size (KpS W.heap.size c) (RIc W R y v.heap.size) (RIx W y) (e++[x]) d) h d)(H:∀(f:Nat) (d:W_),v.heap.size≤f→RIc W R y v.heap.size (du Z m) d→d.heap[f]?=some (.deferred (some []))→E .normal {U with defers:={target:=.collected f,args:=#[]}::U.defers} d)(L:∀(f:Nat) (e:List (Nat×Pt)) (d:W_),v.heap.size≤f→(∃k,k≤m∧e=du Z k)→RIx W y .ret e d→d.heap[f]?=some (.deferred (some []))→Code.ret.wpIn Fence.wide 6 Tryz.prog E {U with defers:={target:=.collected f,args:=#[]}::U.defers} d):
 (Code.rangeFunc O #[24,25] assign body).wpIn Fence.wide 6 Tryz.prog E U v:=by
 refine wpIn_rangeFunc_ownH rfl (by omega) (gf:=231) (lb:=#[.pointer (some ⟨c,0,none⟩)]) F trivial (enters_of Tryz.func231 (by kernel_rfl) rfl)
  (Ae (c:=5) (by omega) S (OJ _) G z z.size A hBs) JJ (ry z.size A) (ce _ _) (λ_=>rfl)
  (RIc W R y v.heap.size) (RIx W y) (Lb (R:=R) (y:=y) C) (λu=>Lc (y:=y) (P:=u) C) ⟨h0,OJ _⟩ (RAx v.heap.size U.tmps) (KZ (m:=v.heap.size) (R:=U.tmps)) ?_ ?_ ?_ ?_
 ·intro l e x d K r q;have I:=J l e x d K r q;have M:(#[24,25].zip (vF x)).foldl (λ(t:Array V_) (x:Nat×V_)=>match x with|(p,v)=>t.setIfInBounds p v) U.tmps=(U.tmps.setIfInBounds 24 (.int .i64 (x.1:Int))).setIfInBounds 25 (.agg #[.int .i64 x.2.at_,.int .u8 x.2.d.z0,.int .u8 x.2.d.z1,.int .u8 x.2.d.z2,.int .u8 x.2.d.z3,.int .u8 x.2.d.z4,.int .u8 x.2.d.z5,.int .u8 x.2.d.z6,.int .u8 x.2.d.z7]):=by simp[vF]
  rw[M];exact I
 ·intro l e x h d _ _ r Q D;exact N l e x h d r Q D
 ·rintro f T d s rfl r q;exact H f d s r q
 ·intro f u e d s hs B q;have hc:=B.1;subst hc;exact L f e d s hs B q
end
section
open Go.RowKit
variable {k:Nat}{x:W_}
def M8:Code->Code
 |.seq _ b=>b
 |c=>c
def kC:Nat→Code→Code
 | 0, c => c
 | k + 1, c => M8 (kC k c)
def aA (f:Func) (P:Ending→W_→Prop) (k:Nat) (a:Act) (x:W_):Prop :=
 Code.wp Tryz.prog (kC k (f.body.getD .skip)) (bodyPost Tryz.prog f P) a x
theorem aj{f:Func}(h:kC k (f.body.getD .skip)=.seq P (kC (k+1) (f.body.getD .skip)))(hs:∀K:Act->W_->Prop,(∀a b,Met (aA f I (k+1)) a b->K a b)->Code.wp prog P (Exit.then K (bodyPost prog f I)) U x):aA f I k U x:=by
 unfold aA;rw[h];refine wp_seq_k (λK d=>hs K (λa b c=>d a b c))
theorem bg{f:Func}{c:Code}(h:kC k (f.body.getD .skip)=c)(hs:Code.wp prog c (bodyPost prog f I) U x):aA f I k U x:=by
 unfold aA;rw[h];exact hs
end
section
open Go.RowKit Go.Shelf
attribute [local go_sem] Oper.semAt_some
theorem AL:KeepsOthers W (aV W m o d):=
 ((((((((KeepsOthers.setCell _ _ _).trans (KeepsOthers.setCell _ _ _)).trans (KeepsOthers.setCell _ _ _)).trans (KeepsOthers.setCell _ _ _)).trans (KeepsOthers.setCell _ _ _)).trans (KeepsOthers.setCell _ _ _)).trans (KeepsOthers.setCell _ _ _)).trans (KeepsOthers.setCell _ _ _))
theorem fc(h:Bx W m #[V,u,T,s,r,p,f,e] X)(x:B8):Bx (aV W m 0 x) m x X:=by
 unfold Bx at*;unfold aV;simp[World.setCell,TU,h]
theorem RI.later{w W c:W_}{D:Array V_}{at_:Int}{d:List (Nat×Pt)}(l:RI w D at_ d W)(a:OS W c):RI w D at_ d c:=by
 have⟨e,f,b,h,m,o,j⟩:=l;exact⟨e.later a e.lt,f.later a f.lt,b.later a b.lt,h.later a h.lt,m.t a,by have:=a.size;omega,j⟩
theorem RI.start(w:W_)(D:Array V_)(at_:Int)(a:W_)(b:a=(((w.alloc (.cells D 272)).alloc (.cells #[at_] 3)).alloc (.cells () 65)).alloc (.cells #[Zn] 38)):RI w D at_ [] a:=by
 subst b;refine⟨(((Bx.new w D 272).alloc _).alloc _).alloc _,?_,?_,?_,(((af).alloc (by simp) _).alloc (by simp;omega) _).alloc (by simp;omega) _,by simp,by simp⟩
 ·have h:=((Bx.new (w.alloc (.cells D 272)) #[at_] 3).alloc (.cells () 65)).alloc (.cells #[Zn] 38);rw[dl] at h;exact h
 ·have h:=(Bx.new ((w.alloc (.cells D 272)).alloc (.cells #[at_] 3)) () 65).alloc (.cells #[Zn] 38);rw[dl,dl] at h;exact h
 ·have h:=Bx.new (((w.alloc (.cells D 272)).alloc (.cells #[at_] 3)).alloc (.cells () 65)) #[Zn] 38;rw[dl,dl,dl] at h;exact h
theorem mW(I:Option A_)(S C:Nat)(hs:BL v I c l)(X:PL v a m Z)(O:jR c Z y z=0)(hx:d=eB l Z z):
 C_ Tryz.prog 161 #[.agg #[.slice I c S,.slice a m C,.int .i64 y],.int .i64 z] v λA w'=>
  A=.returned (.tuple #[.agg #[.int .u8 d.z0,.int .u8 d.z1,.int .u8 d.z2,.int .u8 d.z3,.int .u8 d.z4,.int .u8 d.z5,.int .u8 d.z6,.int .u8 d.z7],.nilIface])∧OS v w':=by
 obtain⟨ak,ar⟩:H_ (ct c Z z=0)∧¬y=0:=by
  unfold jR at O;split at O
  ·rename_i h1
   split at O
   ·omega
   ·rename_i h2
    exact⟨h1,h2⟩
  ·contradiction
 obtain⟨aE,aA,ay,aH⟩:c≤200∧m≤800∧0≤z∧z<c:=by
  have B:=ak.o;unfold ct at B;split at B
  ·rename_i h1
   have⟨_,h3,h4,_⟩:=jQ h1;split at B
   ·rename_i h2
    exact⟨h3,by rw[←X.1];exact h4,h2.1,h2.2⟩
   ·omega
  ·contradiction
 have HS:=Y hs;have HP:=Y X;have HX:=Y hx;have ap:=Y X.1;have aq:=Y (show c≤maxLen from hs.2.2.1);clear hs X O hx;have aJ:(y==0)=false:=by simpa using ar
 refine(callsIn_wide (n:=6)).1 ?_;refine callsIn_of_wp_marks Tryz.func161 rfl trivial ?_ rfl;simp only[Tryz.ntmps161,EQ,fd,ut,Nat.reduceAdd,Nat.reduceSub,ww,AC,LE,fI,pp,i6];gi_wp2_with fail;refine⟨trivial,?_⟩;obtain⟨w0,aj⟩:∃w0:W_,H_ (w0=(((v.alloc (.cells #[.slice I c S,.slice a m C,.int .i64 y] 272)).alloc (.cells #[.int .i64 z] 3)).alloc (.cells #[.int .u8 0,.int .u8 0,.int .u8 0,.int .u8 0,.int .u8 0,.int .u8 0,.int .u8 0,.int .u8 0] 65)).alloc (.cells #[.nilIface] 38)):=⟨_,rfl⟩
 have an:=Y (RI.start v #[.slice I c S,.slice a m C,.int .i64 y] z w0 aj.o);rw[←aj.o];refine(callsIn_wide.2 (jd I S C y z Z (HP.o.later an.o.2.2.2.2.1) aq.o)).mono ?_;rintro A w1 ⟨rfl,al⟩;rw[ak.o,aQ];have ah:=Y (an.o.later al);clear al;have⟨f0,f1,f2⟩:=ah.o.1.three;have az:=ah.o.2.2.2.2.2.1;gi_wp2_with fail;refine⟨trivial,?_⟩;refine(xS (m:=5) (a:=a) (c:=m) (j:=C) (v:=w1)).mono ?_;rintro A w2 ⟨rfl,rfl⟩;gi_wp2_with fail;have ai:=Y (ah.o.later (af (v:=w1) (P:=.cells #[.slice a m C] 106)));refine Ft (c:=w1.heap.size) (j:=C) rfl (by omega) HP.o ai.o.2.2.2.2.1 (by simp) ai.o.2.2.2.2.2.1 ?hBs ai.o ?assign ?body ?done ?stop;case hBs=>rw[lw];rfl
 case assign=>
  intro lp pre d W aG e E;simp only[sp,Do,Eq];gi_wp2
  have V:w1.heap.size+1≤W.heap.size:=by have:=e.2;simpa using this
  exact E _ _ ((KeepsOthers.alloc _ _).from _) ⟨(ce _ _).alloc (by omega) _,pi W _ _ (by omega)⟩ ⟨e.1.later (af),by simp;omega⟩ ⟨W.heap.size,by simpa using V,UO W _,rfl⟩
 case body=>
  rintro lp pre ⟨i,p⟩ a' W ⟨e,V⟩ ⟨gx,am,s,rfl⟩ aI;have j:=Y e;have ax:=Y V;have⟨d0,d1,d2⟩:=e.1.three;have ag:=e.2.1.cell 0;have⟨y0,y1,y2,y3,y4,y5,y6,y7⟩:=(show OU W (v.heap.size+2) zB from e.2.2.1).eight;have yz:=e.2.2.1.frozen;have v0:=e.2.2.2.1.cell 0;have vz:=e.2.2.2.1.frozen;have x0:=s.cell 0;have x1:=s.cell 1;have x2:=s.cell 2;have x3:=s.cell 3;have x4:=s.cell 4;have x5:=s.cell 5;have x6:=s.cell 6;have x7:=s.cell 7;have x8:=s.cell 8;have aC:w1.heap.size+1≤gx:=by simpa using am
  have aB:=Y s;clear e V s am;simp only[sp,Do,Eq] at ag v0 x0 x1 x2 x3 x4 x5 x6 x7 x8 ⊢;by_cases G:p.at_=z
  ·have aw:(p.at_==z)=true:=by simpa using G
   have ad:=Y G;clear G;gi_wp2_with fail;show KeepsFrom _ W ((aV W (v.heap.size+2) 0 p.d).setCell ⟨v.heap.size+3,0,none⟩ .nilIface)∧RIx v z .ret (pre++[(i,p)]) ((aV W (v.heap.size+2) 0 p.d).setCell ⟨v.heap.size+3,0,none⟩ .nilIface)
   have⟨b0,b1,K,L,H,bs,hn⟩:=j.o;refine⟨((AL).trans (KeepsOthers.setCell _ _ _)).from _,rfl,pre,i,p,rfl,ad.o,hn,(fc K p.d).other _ _ (by show v.heap.size+2≠v.heap.size+3;omega),(Bx.aV L (by omega) 0 p.d).set 0 .nilIface,(bP H (by omega) 0 p.d).setCell (p:=⟨v.heap.size+3,0,none⟩) (by show v.heap.size≤v.heap.size+3;omega) _,?_⟩;simp[aV,World.setCell];omega
  ·have aw:(p.at_==z)=false:=by simpa using G
   have ad:=Y G;clear G;gi_wp2
   refine⟨(KeepsOthers.refl _).from _,⟨ce _ _,rfl⟩,⟨j.o.1,j.o.2.1,j.o.2.2.1,j.o.2.2.2.1,j.o.2.2.2.2.1,j.o.2.2.2.2.2.1,?_⟩,by have:=ax.o;simpa using this⟩;intro f Q;rcases ip.1 Q with B|B
   ·exact j.o.2.2.2.2.2.2 f B
   ·simp at B
    subst B;exact ad.o
 case done=>
  intro h W U e E;have j:=Y e.1;have HK:=Y E;have au:w1.heap.size+1≤h:=by simpa using U
  have⟨d0,d1,d2⟩:=e.1.1.three;have ag:=e.1.2.1.cell 0;have⟨y0,y1,y2,y3,y4,y5,y6,y7⟩:=(show OU W (v.heap.size+2) zB from e.1.2.2.1).eight;have yz:=e.1.2.2.1.frozen;have v0:=e.1.2.2.2.1.cell 0;have vz:=e.1.2.2.2.1.frozen;clear e E U;have⟨T,hj⟩:=TA ay;have⟨b,off,f,av,hb,Q,c0,c1,c2,c3,c4,c5,c6,c7⟩:=(HS.o.later j.o.2.2.2.2.1).at_ T (by omega);subst av;have HZ:=Y (show d=f by
   rw[HX.o,BZ (by rw[ap.o];exact j.o.2.2.2.2.2.2),hj,m6,Oy,Q];rfl)
  have aF:(T:Int)<c:=by omega
  subst hj;clear Q;simp only[OB,Oz] at ag v0;gi_wp2
  show bodyPostM Fence.wide 6 Tryz.prog Tryz.f161 _ Exit.ret _ ((aV W (v.heap.size+2) 0 f).setCell ⟨v.heap.size+3,0,none⟩ .nilIface)
  obtain⟨r,J⟩:∃r:W_,H_ (r=(aV W (v.heap.size+2) 0 f).setCell ⟨v.heap.size+3,0,none⟩ .nilIface):=⟨_,rfl⟩
  rw[←J.o];have⟨b0,b1,K,L,H,bs,hn⟩:=j.o;have B2:OU r (v.heap.size+2) f:=by rw[J.o];exact(fc K f).other _ _ (by show v.heap.size+2≠v.heap.size+3;omega)
  have B3:Bx r (v.heap.size+3) #[.nilIface] 38:=by rw[J.o];exact(Bx.aV L (by omega) 0 f).set 0 .nilIface
  have BB:OS v r:=by rw[J.o];exact(bP H (by omega) 0 f).setCell (p:=⟨v.heap.size+3,0,none⟩) (by show v.heap.size≤v.heap.size+3;omega) _
  have ao:r.heap[h]?=some (.deferred (some [])):=by
   rw[J.o,jp _ _ _ _ (by show h≠v.heap.size+3;omega),rY (by omega)];exact HK.o
  have F:=grownBy_putObj' r h (.deferred none);have M:∀D,some h=some D→∃o:Obj,r.heap[D]?=some o∧o.isCells=false:=λD A=>by cases A;exact⟨_,ao,rfl⟩
  have ab:OU (r.putObj h (.deferred none)) (v.heap.size+2) f:=bX B2 F M;have ae:Bx (r.putObj h (.deferred none)) (v.heap.size+3) #[.nilIface] 38:=bX B3 F M;have hbl:=BB.grown F BB.size (λk A=>by cases A;omega);refine⟨by simp,.inl ⟨_,_,rfl,run_takeDeferred ao,?_⟩⟩;generalize r.putObj h (.deferred none)=WG at*;have⟨q0,q1,q2,q3,q4,q5,q6,q7⟩:=ab.eight;have N:=ae.cell 0;simp only[OB,Oz] at N;exact⟨.tuple #[.agg #[.int .u8 f.z0,.int .u8 f.z1,.int .u8 f.z2,.int .u8 f.z3,.int .u8 f.z4,.int .u8 f.z5,.int .u8 f.z6,.int .u8 f.z7],.nilIface],by simp[results,Tryz.results161,go_sem,q0,q1,q2,q3,q4,q5,q6,q7,N],by rw[HZ.o],hbl⟩
 case stop=>
  rintro h pre W U ⟨k,hk,rfl⟩ ⟨_,aD,i,p,e1,e2,e3,K,L,H,bs⟩ E;have au:w1.heap.size+1≤h:=by simpa using U
  have HZ:=Y (show d=p.d by rw[HX.o,yF (by rw[ap.o];exact hk) e1.symm e2 e3]);have F:=grownBy_putObj' W h (.deferred none);have M:∀D,some h=some D→∃o:Obj,W.heap[D]?=some o∧o.isCells=false:=λD A=>by cases A;exact⟨_,E,rfl⟩
  have ab:OU (W.putObj h (.deferred none)) (v.heap.size+2) p.d:=bX K F M;have ae:Bx (W.putObj h (.deferred none)) (v.heap.size+3) #[.nilIface] 38:=bX L F M;have hbl:=H.grown F H.size (λk A=>by cases A;omega);gi_wp2
  refine⟨by simp,.inl ⟨_,_,rfl,run_takeDeferred E,?_⟩⟩;generalize W.putObj h (.deferred none)=WG at*;have⟨q0,q1,q2,q3,q4,q5,q6,q7⟩:=ab.eight;have N:=ae.cell 0;simp only[OB,Oz] at N;exact⟨.tuple #[.agg #[.int .u8 p.d.z0,.int .u8 p.d.z1,.int .u8 p.d.z2,.int .u8 p.d.z3,.int .u8 p.d.z4,.int .u8 p.d.z5,.int .u8 p.d.z6,.int .u8 p.d.z7],.nilIface],by simp[results,Tryz.results161,go_sem,q0,q1,q2,q3,q4,q5,q6,q7,N],by rw[HZ.o],hbl⟩
end
section
open Go.RowKit
namespace Mx
def cS(n:Nat)(ps:List Pt)(left at_:Int):Int:=if ct n ps at_=0 then(if ps.length=800 then 2 else if left=0 then 4 else 0) else ct n ps at_
end Mx
theorem um(sc pc:Nat)(x:B8)(hs:BL v a c l)(hp:PL v q m Z)(hl1:-9223372036854775808<=y)(hl2:y<=9223372036854775807)(hm:cS c Z y z=0):
 C_ prog 210 #[.agg #[(a,c,sc),(q,m,pc),y],z,x] v λe w'=>
  ∃v1 v2,e=Zr #[.agg #[v1,v2,Zb (less y)],Zn]/\ay w' v v1 l/\bt w' v v2 (Z++[⟨z,x⟩])/\OS v w':=by
 have HS:=Y hs;have HP:=Y hp;have HM:=Y hm;have HNN:H_ (c<=maxLen):=hs.2.2.1;have HL:=Y (TH hl1 hl2);clear hs hp hm hl1 hl2;obtain⟨hpl,h8,hleft⟩:H_ (ct c Z z=0)/\¬Z.length=800/\¬y=0:=by
  have h:=HM.o;unfold cS at h;split at h
  ·rename_i h1
   split at h
   ·omega
   ·rename_i h2
    split at h
    ·omega
    ·rename_i h3
     exact⟨h1,h2,h3⟩
  ·contradiction
 have hn1:H_ (c<=200/\m<=800):=by
  have h:=hpl.o;unfold ct at h;split at h
  ·rename_i h1
   have⟨_,h3,h4,_⟩:=jQ h1;exact⟨h3,by rw[<-HP.1];exact h4⟩
  ·contradiction
 have hm8:¬m=800:=by rw[<-HP.1];exact h8
 clear h8;have hnm:=hn1.o;have hme:((m:Int)==800)=false:=by simp;omega
 have hle:(y==0)=false:=by simpa using hleft
 go_enter func210,ntmps210;go_wp2_with fail;refine(jd a sc pc y z Z (HP.later (((af).alloc (by simp) _).alloc (by simp;omega) _)) HNN).mono ?_;rintro e w1 ⟨rfl,hb1⟩;rw[hpl,aQ];have HBD:=Y (show Bx w1 v #[(a,c,sc),(q,m,pc),y] 272 from(((Bx.new v _ 272).alloc _).alloc _).later hb1 (by simp;omega));have HBX:=Y (show OU w1 (v+1) x from by
  have h:=((Bx.new (v.alloc (.cells #[(a,c,sc),(q,m,pc),y] 272)) x 65).alloc (.cells #[Zs,Zs,Zi] 272)).later hb1 (by simp);rw[dl] at h;exact h)
 have HBR:=Y (show Bx w1 (v+2) #[Zs,Zs,Zi] 272 from by
  have h:=(Bx.new ((v.alloc (.cells #[(a,c,sc),(q,m,pc),y] 272)).alloc (.cells x 65)) #[Zs,Zs,Zi] 272).later hb1 (by simp);rw[dl,dl] at h;exact h)
 have HBel:=Y ((((af (v:=v) (P:=.cells #[(a,c,sc),(q,m,pc),y] 272)).alloc (by simp) _).alloc (by simp;omega) _).trans (hb1.mono (by simp;omega)));have hsz:v.heap.size+3<=w1:=by have:=hb1.size;simp at this;omega
 clear hb1;have HS1:=Y (HS.later HBel);have HP1:=Y (HP.later HBel);have⟨f0,f1,f2⟩:=HBD.three;have hg1:v<w1.heap.size:=by omega
 have HN6:=Y (show c<=1000000/\m<=1000000 by omega);go_wp2_with fail;go_cut [9] (λs9 wx=>∃gn a1 c1 a2 c2,s9=.pointer (some ⟨gn,0,none⟩)/\H_ (Made w1 wx gn (.slice a1 c c1) (.slice a2 m c2) (Zb (less y)) l Z))
 case first=>
  go_region_held (λw'=>w'.cell? v=(a,c,sc)/\w'.cell? (v,1)=(q,m,pc)/\w'.cell? (v,2)=Zb y/\OS w1 w')
   (first|exact dq.drew HBD|exact dq.of HBD hbB.1|exact dq.of HBD hbP.1|assumption|(refine dq.alloc HBD ?_ _;assumption)|exact dq.of HBD (hbP.1.alloc hbP.1.size _)|exact dq.of HBD (hbB.1.alloc hbB.1.size _)|exact dq.of HBD ((ce _ _).drew.alloc (OJ _) _)|(refine dq.set HBD (dq.set HBD (dq.set HBD ?_ _ ?_ _) _ ?_ _) _ ?_ _<;>assumption))
   (first|(go_at_call 199;refine(jP (w1:=w1) sc HS1 HN6.1 HBD (Bx.new _ _ _) ?hge ?hbS).mono ?_;(case hge=>first|exact OJ _|exact hbP.1.size);(case hbS=>simp only[*]);rintro e wB ⟨a1,c1,rfl,hoB,hbB,⟨q0,q1,q2,q3,q4⟩,hxB,hgB,r0,r1,r2,r3,r4⟩)|(go_at_call 199;refine(jP (w1:=w1) sc HS1 HN6.1 HBD (Bx.dC _ _ _) ?hge ?hbS).mono ?_;(case hge=>first|exact OJ _|exact hbP.1.size);(case hbS=>simp only[*]);rintro e wB ⟨a1,c1,rfl,hoB,hbB,⟨q0,q1,q2,q3,q4⟩,hxB,hgB,r0,r1,r2,r3,r4⟩)|(go_at_call 199;refine(jP (w1:=w1) sc HS1 HN6.1 HBD hxP hgP ?hbS).mono ?_;(case hbS=>simp only[*]);rintro e wB ⟨a1,c1,rfl,hoB,hbB,⟨q0,q1,q2,q3,q4⟩,hxB,hgB,r0,r1,r2,r3,r4⟩)|(go_at_call 199;refine(nL (w1:=w1) sc HS1 HN6.1 HBD ?hbS).mono ?_;(case hbS=>simp only[*]);rintro e wB ⟨a1,c1,rfl,hoB,hbB,q0,q1,q2,q3,q4⟩)|(go_at_call 176;refine(mq (w1:=w1) pc HP1 HN6.2 HBD (Bx.new _ _ _) ?hge ?hbS).mono ?_;(case hge=>first|exact OJ _|exact hbB.1.size);(case hbS=>simp only[*]);rintro e wP ⟨a2,c2,rfl,hoP,hbP,⟨q0,q1,q2,q3,q4⟩,hxP,hgP,r0,r1,r2,r3,r4⟩)|(go_at_call 176;refine(mq (w1:=w1) pc HP1 HN6.2 HBD (Bx.dC _ _ _) ?hge ?hbS).mono ?_;(case hge=>first|exact OJ _|exact hbB.1.size);(case hbS=>simp only[*]);rintro e wP ⟨a2,c2,rfl,hoP,hbP,⟨q0,q1,q2,q3,q4⟩,hxP,hgP,r0,r1,r2,r3,r4⟩)|(go_at_call 176;refine(mq (w1:=w1) pc HP1 HN6.2 HBD hxB hgB ?hbS).mono ?_;(case hbS=>simp only[*]);rintro e wP ⟨a2,c2,rfl,hoP,hbP,⟨q0,q1,q2,q3,q4⟩,hxP,hgP,r0,r1,r2,r3,r4⟩)|(go_at_call 176;refine(te (w1:=w1) pc HP1 HN6.2 HBD ?hbS).mono ?_;(case hbS=>simp only[*]);rintro e wP ⟨a2,c2,rfl,hoP,hbP,q0,q1,q2,q3,q4⟩)|(go_at_call 232;refine(pj HL.1 HL.2).mono ?_;rintro e wL ⟨rfl,rfl⟩))
  all_goals go_wp2_with fail
  all_goals go_meet
  all_goals first
   |exact⟨_,_,_,_,_,rfl,Nt (a:=w1.drew) (OJ _) hoB hoP hbP hbB⟩
   |exact⟨_,_,_,_,_,rfl,Nu (a:=w1.drew) (OJ _) hoB hbB hoP hbP⟩
   |exact⟨_,_,_,_,_,rfl,Nv hoB hbB hoP hbP⟩
 case rest=>
 obtain⟨gn,a1,c1,a2,c2,rfl,hmd⟩:=hcut;have⟨b0,b1,b2⟩:=hmd.1.three;have bz:=hmd.1.frozen;have bl:=hmd.1.lt;have⟨x0,x1,x2,x3,x4,x5,x6,x7⟩:=(HBX.later hmd.2.2.2.1 (by omega)).eight;have HPL:H_ (Z.length=m):=HP.1;have HMS:=Y hmd.2.2.2.1.size;have hgn:¬gn=v.heap.size+2:=by have:=hmd.2.2.2.2.1;omega
 go_wp2_with (at_builtin;refine eF (w:=wc) rfl rfl w1 Z ?c0 ⟨z,x⟩ ?c1 ?c2 ?c3 ?_);case c0=>exact hmd.2.2.1
 case c1=>rfl
 case c2=>rw[HPL];exact HN6.2
 case c3=>exact HMS
 intro ad cc w2 hown2 hg2;obtain⟨hOP,hG⟩:H_ (bt w2 w1 (ad,m+1,cc) (Z++[⟨z,x⟩]))/\H_ (wc.grownBy w2 (Value.slice a2 m c2).ownBlock):=by
  rw[HPL] at hown2;exact⟨hown2,hg2⟩
 rw[HPL];clear hown2 hg2;have HB2:=Y (show Bx w2 gn #[.slice a1 c c1,.slice a2 m c2,Zb (less y)] 272 from(hG.block gn bl (λe=>hmd.2.2.2.2.2.2.1 e.symm)).trans hmd.1);have HW2:=Y (hmd.2.2.2.1.grown hG HMS (λk hk=>(World.ownsRow.lt hmd.2.2.1 k hk).1));have HO2:=Y (show ay w2 w1 (.slice a1 c c1) l from World.ownsRow.kept hmd.2.1 hG (by
  rcases hb:(Value.slice a1 c c1).ownBlock with _|g
  ·exact .inl rfl
  ·exact .inr (λe=>hmd.2.2.2.2.2.2.2 g hb e.symm)))
 have HR2:=Y (HBR.later HW2 (by omega));have⟨d0,d1,d2⟩:=HB2.three;have dz:=HB2.frozen;have⟨e0,e1,e2⟩:=HR2.three;have ez:=HR2.frozen;have hl2:v.heap.size+2<w2:=HR2.lt;clear b0 b1 b2 bz bl x0 x1 x2 x3 x4 x5 x6 x7 f0 f1 f2;go_wp2_with fail;have HBF:=Y (((HR2.other ⟨gn,1,none⟩ (ad,m+1,cc) (λe=>hgn e.symm)).set 0 (.slice a1 c c1)).set 1 (ad,m+1,cc)|>.set 2 (Zb (less y)));have⟨r0,r1,r2⟩:=(show Bx _ _ #[.slice a1 c c1,(ad,m+1,cc),Zb (less y)] 272 from HBF).three;refine UM (v:=.tuple #[.agg #[.slice a1 c c1,.slice (some ad) (m+1) cc,.int .i64 (less y)],Zn]) (by simp[results,results210,go_sem,r0,r1,r2]) rfl ⟨_,_,rfl,?_,?_,?_⟩
 ·have k1:=aU HO2 HB2 (by decide)
  have k2:=aU HO2 HR2 (by decide);exact World.ownsRow.mono (aB (aB (aB (aB HO2 k1) k2) k2) k2) HBel.size
 ·have k1:=aU hOP HB2 (by decide)
  have k2:=aU hOP HR2 (by decide);have h:=World.ownsRow.mono (aB (aB (aB (aB hOP (G:=⟨gn,1,none⟩) (u:=(ad,m+1,cc)) k1) (G:=⟨v+2,0,none⟩) (u:=.slice a1 c c1) k2) (G:=⟨v+2,1,none⟩) (u:=(ad,m+1,cc)) k2) (G:=⟨v+2,2,none⟩) (u:=Zb (less y)) k2) HBel.size;exact h
 ·have hb:=HBel.t HW2
  have g1:v.heap.size<=gn:=by have:=hmd.2.2.2.2.1;omega
  exact(((hb.setCell (p:=⟨gn,1,none⟩) g1 _).setCell (p:=(v.heap.size+2,0)) (by simp) _).setCell (p:=(v.heap.size+2,1)) (by simp) _).setCell (p:=(v.heap.size+2,2)) (by simp) _
theorem uo(j:Option A_)(f h:Nat)(x:B8)(F:c<=maxLen)(u:PL v a m Z)(I:¬cS c Z y z=0):
 C_ prog 210 #[.agg #[(j,c,f),(a,m,h),y],z,x] v λH w'=>
  H=Zr #[.agg #[Zs,Zs,Zi],aJ (cS c Z y z)]/\OS v w':=by
 have r:=Y u;have L:=Y I;have K:=Y F;have V:H_ (m<=maxLen):=u.2.2.1;clear u I F;go_enter func210,ntmps210;go_wp2_with fail;refine(jd j f h y z Z (r.later (((af).alloc (by simp) _).alloc (by simp;omega) _)) K).mono ?_;rintro H w1 ⟨rfl,l⟩;have N:=Y (show Bx w1 v #[(j,c,f),(a,m,h),y] 272 from(((Bx.new v _ 272).alloc _).alloc _).later l (by simp;omega));have D:=Y (show Bx w1 (v+2) #[Zs,Zs,Zi] 272 from by
  have G:=(Bx.new ((v.alloc (.cells #[(j,c,f),(a,m,h),y] 272)).alloc (.cells x 65)) #[Zs,Zs,Zi] 272).later l (by simp);rw[dl,dl] at G;exact G)
 have M:=Y ((((af (v:=v) (P:=.cells #[(j,c,f),(a,m,h),y] 272)).alloc (by simp) _).alloc (by simp;omega) _).trans (l.mono (by simp;omega)));clear l;have⟨W,O,Q⟩:=N.three;have⟨R,S,U⟩:=D.three;have T:=D.frozen;have⟨A,C,E⟩:=(show Bx _ _ #[Zs,Zs,Zi] 272 from(((D.set 0 Zs).set 1 Zs).set 2 (Zb 0))).three;have B:=Y (((M.setCell (p:=(v.heap.size+2,0)) (by simp) Zs).setCell (p:=(v.heap.size+2,1)) (by simp) Zs).setCell (p:=(v.heap.size+2,2)) (by simp) (Zb 0));by_cases b:ct c Z z=0
 ·have d:=Y b;rw[b,aQ];clear b;by_cases s:(m:Int)=800
  ·have e:=Y (show cS c Z y z=2 by unfold cS;rw[UY d.o,UY (by rw[r.1];omega)]);have J:((m:Int)==800)=true:=by simpa using s
   clear s;go_wp2_with fail;exact UM (v:=.tuple #[.agg #[Zs,Zs,Zi],.iface 70 (.int .i64 2)]) (by simp[results,results210,go_sem,A,C,E]) rfl ⟨by rw[e];rfl,B⟩
  ·have J:((m:Int)==800)=false:=by simpa using s
   by_cases o:y=0
   ·have e:=Y (show cS c Z y z=4 by unfold cS;rw[UY d.o,UX (by rw[r.1];omega),UY o]);have X:(y==0)=true:=by simpa using o
    clear s o;go_wp2_with fail;exact UM (v:=.tuple #[.agg #[Zs,Zs,Zi],.iface 70 (.int .i64 4)]) (by simp[results,results210,go_sem,A,C,E]) rfl ⟨by rw[e];rfl,B⟩
   ·exact absurd (show cS c Z y z=0 by unfold cS;rw[UY d.o,UX (by rw[r.1];omega),UX o]) L
 ·have e:=Y (show cS c Z y z=ct c Z z by unfold cS;rw[UX b]);rw[bJ b];have d:=Y b;clear b;go_wp2_with fail;exact UM (v:=.tuple #[.agg #[Zs,Zs,Zi],.iface 70 (.int .i64 (ct c Z z))]) (by simp[results,results210,go_sem,A,C,E]) rfl ⟨by rw[e,bJ d],B⟩
end
section
open Go.RowKit
variable {w w':W_}{g:Nat}{t:TypeId}
theorem Bx.grow(h:Bx w g R t)(b:w.grownBy w' D)(a:some g≠D):Bx w' g R t:=(b.block g h.lt a).trans h
theorem aM(a:OS w v)(b:v.grownBy w' (some m))(d:w<=m):OS w w':=
 ⟨b.os.trans a.os,b.tape.trans a.tape,b.output.trans a.output,OP a.size b.size,λk c=>
  (b.block k (OE c a.size) (λe=>absurd (OG e) (by omega))).trans (a.block k c)⟩
end
section
open Go.RowKit
namespace Mx
def dO(q:Pk):Int:=(q.at_*4+q.kind)*32+q.from_
def QW(q:Pk):Prop:=0<=q.at_/\q.at_<32/\0<=q.kind/\q.kind<4/\0<=q.from_/\q.from_<32/\(q.kind≠3->q.d=zB)
def su(x:Int)(d:B8):Pk:=⟨x/32/4,x/32%4,x%32,d⟩
def iw:List Int→List B8→Option (List Pk)
 | [], _ => some []
 | x :: xs, bs => if x / 32 % 4 = 3 then (bs.head?.bind (fun b => (iw xs bs.tail).map (su x b :: ·))) else (iw xs bs).map (su x zB :: ·)
def bV(qs:List Pk):List B8:=(qs.filter (λq=>decide (q.kind=3))).map (·.d)
theorem zd:∀(a:List Pk),(∀q∈a,QW q)->iw (a.map dO) (bV a)=a
 |[],_=>rfl
 |q::a,h=>by
  have o:=h q (li ..);have j:=zd a (λx l=>h x (gt _ l));have⟨h1,h2,r,u,s,p,m⟩:=o;have f:dO q/32/4=q.at_:=by unfold dO;omega
  have d:dO q/32%4=q.kind:=by unfold dO;omega
  have e:dO q%32=q.from_:=by unfold dO;omega
  rw[i7,iw,d];by_cases b:q.kind=3
  ·rw[UY b]
   have c:bV (q::a)=q.d::bV a:=by unfold bV;rw[Uz (by simpa using b),i7]
   rw[c];show(iw (a.map dO) (bV a)).map _=_
   rw[j,UJ];unfold su;rw[f,d,e]
  ·rw[UX b]
   have c:bV (q::a)=bV a:=by unfold bV;rw[Uy (by simpa using b)]
   rw[c,j,UJ];unfold su;rw[f,d,e,<-m b]
theorem oP{q:Pk}(h:QW q):0<=dO q/\dO q<4096:=by
 have⟨h1,h2,a,c,b,d,_⟩:=h;unfold dO;omega
theorem wk(a:List Pk):(bV a).length<=a.length:=by unfold bV;rw[pm];exact UK _ _
structure Upd where
 from_:Int
 to_:Int
 qs:List Pk
def Upd.al(u:Upd):List Int:=u.from_::u.to_::u.qs.map dO
def cG(l:List Int):List (List Int):=(List.range ((l.length+8)/9)).map (λi=>(l.drop (i*9)).take 9)
theorem yq(l:List Int):(cG l).flatten=l:=by
 have a:∀(k:Nat),((List.range k).map (λi=>(l.drop (i*9)).take 9)).flatten=l.take (k*9):=by
  intro k;induction k with
  |zero=>simp
  |succ k b=>
   rw[Ui,le,List.flatten_append,b];simp only[i7,rx,List.flatten_cons,List.flatten_nil,m7];rw[show(k+1)*9=k*9+9 by omega,List.take_add]
 unfold cG;rw[a,OL (by omega)]
theorem j7(l:List Int):(cG l).length=(l.length+8)/9:=by unfold cG;simp
end Mx
end
section
open Go.RowKit
variable {k:Nat}{w:W_}
def Mx.bG(l:List B8)(b:B8):List B8:=(b::l.filter (λy=>decide (¬y=b))).take 8
theorem Mx.pF(l:List B8)(b:B8):(bG l b).length<=8:=by unfold bG;rw[OM];omega
theorem Mx.xM{b:B8}(h:l[k]?=d)(f:¬d=b)(c:(bG (l.take k) b).length<8):bG (l.take (k+1)) b=bG (l.take k) b++[d]:=by
 have e:∀a:List B8,a.length<8->(a++[d]).take 8=a.take 8++[d]:=λa h=>by rw[OL (by simp;omega),OL (by omega)]
 unfold bG at c ⊢;rw[OM] at c;have j:[d].filter (λd=>decide (¬d=b))=[d]:=by simp[f]
 rw[az _ _ h,UE,j,<-i6];exact e _ (by omega)
theorem Mx.xK{b:B8}(h:l[k]?=d)(hge:¬(bG (l.take k) b).length<8):bG (l.take (k+1)) b=bG (l.take k) b:=by
 unfold bG at hge ⊢;rw[OM] at hge;rw[az _ _ h,UE,<-i6,List.take_append];rw[show 8-(b::List.filter (λd=>decide (¬d=b)) (l.take k)).length=0 by omega];simp
theorem Mx.xL(h:l[k]?=d)(a:d=B):bG (l.take (k+1)) B=bG (l.take k) B:=by
 unfold bG;rw[az _ _ h,UE];have b:[d].filter (λd=>decide (¬d=B))=[]:=by simp[a]
 rw[b,m7]
theorem Mx.yM{l:List B8}{b:B8}(a:l.length<=k):bG (l.take k) b=bG l b:=by rw[OL a]
theorem Af:
 ∀j u,(bp [d])[j]?=some u->(v.alloc (.cells d X)).cell? ((⟨v,0,none⟩:A_).add j)=some u:=by
 intro j u a;have b:(⟨v,0,none⟩:A_).add j=⟨v,j,none⟩:=by unfold Addr.add;split<;>simp_all
 rw[b,lw];simpa[bp,B8.cs] using a
theorem jK{rest:List Oper}(G:L.guard=none)(s:L.op=.call {callee:=.builtin .append,args:=#[O,K],argTypes:=#[76,76]})(a:Nat)(l:List B8)(h:ay w a (U.eval O) l)(p:B8)(B:U.eval K=(w,1,1))(J:l.length<=1000000)(H:a<=w)(r:∀g c w',a<=g->l.length+1<=c->ay w' a (.slice (some ⟨g,0,none⟩) (l.length+1) c) (l++[p])->w.grownBy w' (U.eval O).ownBlock->wpList prog N Q rest (U.put L.dst (.slice (some ⟨g,0,none⟩) (l.length+1) c)) w'):
 wpList prog N Q (L::rest) U (w.alloc (.cells p 65)):=by
 have⟨u,C,y,f,F⟩:=info_parts Tryz.info65;apply UN _ G O K 76 s a 65 u _ 8 8 Tryz.underlying76 C y f F rfl (by decide) (U.eval O) l.length (bp l) rfl (World.ownsRow.alloc h _) ⟨w,0,none⟩ 1 1 (bp [p]) B (by simp[bp,B8.cs]) (Af (v:=w) (d:=p) (X:=65)) kQ (by unfold maxLen;omega) (by omega) (by simp;omega);intro m w' e b _;have q:ay w' a m (l++[p]):=by
  unfold ay;rw[OC,bp,wt];exact e
 have D:w.grownBy w' (U.eval O).ownBlock:=⟨b.os,b.tape,b.output,by have:=b.size;simp at this;omega,λk z A=>(b.block k (by simp;omega) A).trans (pi w _ k z)⟩;rcases e.2 with ⟨_,j⟩|⟨g,I,M,rfl,E,_,o,_⟩
 ·simp at j
 ·exact r _ _ w' E (by simpa using o) q D
theorem ay.one(w:W_)(base:Nat)(a:base<=w)(x:B8):ay (w.alloc (.cells x 65)) base (w,1,1) [x]:=by
 unfold ay;refine⟨by simp[bp,B8.cs],.inr ⟨w,1,_,rfl,a,UO w _,OJ _,by unfold maxLen;omega,by simp,?_⟩⟩;simp[bp,B8.cs]
theorem ay.lower(h:ay w m V l)(j:c<=m):ay w c V l:=by
 have⟨h1,h2⟩:=h;refine⟨h1,?_⟩;rcases h2 with h2|⟨g,b,d,e,f,a⟩
 ·exact .inl h2
 ·exact .inr ⟨g,b,d,e,by omega,a⟩
def Tch(w:W_)(base gx:Nat)(x:B8)(t:List B8)(v:V_)(wr:W_):Prop:=
 OS w wr/\OU wr gx x/\ay wr base v t/\base<=wr
theorem Tch.alloc{w wr:W_}{a b:Nat}{x:B8}{t:List B8}{v:V_}(h:Tch w a b x t v wr)(o:Obj):Tch w a b x t v (wr.alloc o):=
 ⟨h.1.alloc h.1.size _,h.2.1.alloc _,World.ownsRow.alloc h.2.2.1 _,by have:=h.2.2.2;simp;omega⟩
theorem Tch.grown{w wr w':W_}{a b:Nat}{x:B8}{t j:List B8}{v f:V_}(h:Tch w a b x t v wr)(p:b<a)(m:w<=a)(c:wr.grownBy w' v.ownBlock)(o:ay w' a f j):Tch w a b x j f w':=by
 have e:∀k,v.ownBlock=some k->a<=k:=λk d=>(World.ownsRow.lt h.2.2.1 k d).1
 refine⟨h.1.grown c h.1.size (λk d=>OP m (e k d)),(c.block b h.2.1.lt (λl=>?_)).trans h.2.1,o,?_⟩
 ·have:=e b l.symm;omega
 ·have:=c.size;have:=h.2.2.2;omega
end
section
open Go.RowKit
theorem Gd(r:BL v a m l)(hc:m<=c)(Q:cF l=0):
 C_ prog 237 #[(a,m,c),d] v λs w'=>∃g f,s=Zr #[.slice (some ⟨g,0,none⟩) (bG l d).length f,Zn]/\H_ (ay w' v (.slice (some ⟨g,0,none⟩) (bG l d).length f) (bG l d))/\H_ (OS v w'):=by
 have ae:m<=maxLen:=r.2.2.1;unfold maxLen at ae;have R:=Y r;have HN:=Y r.1;have HE:=Y Q;clear r Q;go_enter func237,ntmps237;go_wp2_with fail;refine(mj (R.later (af)) hc).mono ?_;rintro s w1 ⟨rfl,p⟩;rw[HE,show aJ 0=Value.nilIface from rfl];have L:=Y ((af (v:=v) (P:=.cells d 65)).trans (p.mono (by simp)));have N:=Y (show OU w1 v d from(Bx.new v _ _).later p (by simp));have D:=Y (show v.heap.size+1<=w1 by have:=p.size;simpa using this);clear p;have⟨E,G,u,I,J,F,A,C⟩:=N.eight;go_wp2_with fail;go_loopw [7,19] (λB i wr=>∃(k g f b:Nat),k<=m/\i=Zb k/\b<=8/\B=.slice (some ⟨g,0,none⟩) b f/\H_ (b=(bG (l.take k) d).length)/\H_ (Tch v w1 v d (bG (l.take k) d) (.slice (some ⟨g,0,none⟩) b f) wr)) (λ_ i _=>m-(intOf i).toNat)
 case atStart=>
  refine⟨0,w1,1,1,by omega,rfl,by omega,by simp,by simp[H_,bG],?_⟩;have ht:bG (l.take 0) d=[d]:=by simp[bG]
  rw[ht];exact⟨L.alloc L.size _,N.alloc _,ay.one w1 w1 (OJ _) d,by simp⟩
 case round=>
  clear E G u I J F A C;obtain⟨k,g,f,b,hk,rfl,O,rfl,h,e⟩:=hrel;by_cases ad:k<m
  ·obtain⟨H,ai,y,rfl,p,M,e0,X,e2,e3,e4,Z,e6,e7⟩:=(R.later e.1).at_ k ad;have⟨E,G,u,I,J,F,A,C⟩:=e.2.1.eight;have ah:=e.2.1.lt;have z:=Y M;clear M;have q:=fj y.z0 y.z1 y.z2 y.z3 y.z4 y.z5 y.z6 y.z7 d.z0 d.z1 d.z2 d.z3 d.z4 d.z5 d.z6 d.z7;by_cases j:[y.z0,y.z1,y.z2,y.z3,y.z4,y.z5,y.z6,y.z7]=[d.z0,d.z1,d.z2,d.z3,d.z4,d.z5,d.z6,d.z7]
   ·have o:=Y (xL z ((B8.eq_list y d).1 j));rw[UR j] at q;clear j;go_wp2_with fail;go_roundw
    case rel=>exact⟨k+1,g,f,b,by omega,by go_num,O,rfl,by rw[o];exact h,by rw[o];exact e.alloc _⟩
    case measure=>simp[intOf];omega
   ·by_cases ag:(b:Int)<8
    ·have o:=Y (xM (b:=d) z (λs=>j ((B8.eq_list y d).2 s)) (by rw[<-h];omega));rw[UQ j] at q;clear j;go_wp2_with (at_builtin;refine jK rfl rfl w1 (bG (l.take k) d) ?c0 y ?c1 ?c2 ?c3 ?_);case c0=>exact(e.alloc _).2.2.1
     case c1=>rw[dl];rfl
     case c2=>have:=pF (l.take k) d;omega
     case c3=>have:=e.2.2.2;simp;omega
     intro W c2 w' ab V K T;have U:=Y K;have hG:=Y T;clear K T ab V e0 X e2 e3 e4 Z e6 e7 E G u I J F A C q;rw[<-h];go_wp2;go_roundw
     case rel=>exact⟨k+1,W,c2,b+1,by omega,by go_num,by omega,rfl,by rw[o];unfold H_;rw[h];simp,by rw[o];exact Tch.grown (e.alloc _) (by have:=D.o;omega) (by have:=D.o;omega) hG (by rw[h];exact U)⟩
     case measure=>simp[intOf];omega
    ·have o:=Y (xK (b:=d) z (by rw[<-h];omega));rw[UQ j] at q;clear j;go_wp2_with fail;go_roundw
     case rel=>exact⟨k+1,g,f,b,by omega,by go_num,O,rfl,by rw[o];exact h,by rw[o];exact e.alloc _⟩
     case measure=>simp[intOf];omega
  ·have S:=Y (yM (l:=l) (k:=k) (b:=d) (by rw[HN];omega));go_wp2_with fail;exact UM (v:=.tuple #[.slice (some ⟨g,0,none⟩) b f,Zn]) (by simp[results,results237,go_sem]) rfl ⟨g,f,by rw[<-S,<-h],by rw[<-S,<-h];exact ay.lower e.2.2.1 (by have:=D.o;omega),e.1⟩
end
section
open Go.RowKit
def B8.arr(x:B8):Array V_:=x
theorem kh(h:Bx v m d.arr X)(x:B8):Bx (aV v m 0 x) m x.arr X:=by
 have a:=(((((((h.set 0 (Za x.z0)).set 1 (Za x.z1)).set 2 (Za x.z2)).set 3 (Za x.z3)).set 4 (Za x.z4)).set 5 (Za x.z5)).set 6 (Za x.z6)).set 7 (Za x.z7);have e:((((((((d.arr.setIfInBounds 0 (Za x.z0)).setIfInBounds 1 (Za x.z1)).setIfInBounds 2 (Za x.z2)).setIfInBounds 3 (Za x.z3)).setIfInBounds 4 (Za x.z4)).setIfInBounds 5 (Za x.z5)).setIfInBounds 6 (Za x.z6)).setIfInBounds 7 (Za x.z7))=x.arr:=by simp[B8.arr]
 rw[e] at a;unfold aV;simp only[m9];exact a
end
section
open Go.RowKit
variable {k:Nat}{x:W_}
def jk (c:Code) (Q:Exit→Act→W_→Prop) (k:Nat) (a:Act) (x:W_):Prop:=Code.wp Tryz.prog (kC k c) Q a x
theorem fh(h:kC k P=.seq H (kC (k+1) P))(hs:∀K:Act->W_->Prop,(∀a b,Met (jk P Q (k+1)) a b->K a b)->Code.wp prog H (Exit.then K Q) U x):jk P Q k U x:=by
 unfold jk;rw[h];refine wp_seq_k (λK d=>hs K (λa b c=>d a b c))
theorem Cp{c':Code}(h:kC k P=c')(hs:Code.wp prog c' Q U x):jk P Q k U x:=by
 unfold jk;rw[h];exact hs
def Hm:Code->Code
 |.seq s _=>s
 |c=>c
