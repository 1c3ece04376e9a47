import Derived.Deep.RegionHeld3
import Derived.Test.YtgklbhiamepfoaaGreatDoorZ9
set_option maxHeartbeats 16000000
set_option maxRecDepth 100000
namespace Go.Proofs.YtgklbhiamepfoaaGreatDoor
open Go renaming World->W_,Value->V_,Calls->C_,Addr->A_
open Go.RowKit renaming Hid->H_
open Go.Proofs.Tryz Mx
variable {u W:W_}{m c j i:Nat}{q p e:Option A_}{L S:List Int}{x y z:Int}{V U H:V_}{Z f:List Ep}{X:List (Option B8)}{T:TypeId}{R:List Pt}{Q:Bu}{P:Array Oper}{O:Oper}{N:Act}{M:Exit->Act->W_->Prop}{K I:Operand}{J:Option Nat}{G D:List V_}{F:Act->W_->Prop}{E:Prop}{A:Obj}{t:A_}{d:B8}{s:Pt}{r:Option B8}
open Go.RowKit
section
variable {w:W_}{a:Option A_}{k B base:Nat}{v:V_}
theorem PL.grownBy{w e:W_}{a:Option A_}{n:Nat}{l:List Pt}{d:Option Nat}(h:PL w a n l)(b:w.grownBy e d)(m:0<n->∀p,a=some p->d≠some p.block):PL e a n l:=by
 have⟨h0,h1,h2,r⟩:=h;refine⟨h0,h1,h2,λc=>?_⟩;have⟨i,s,f,t,hc⟩:=r c;exact⟨i,s,f,by have:=b.size;omega,λj u q=>b.cell (hc j u q) (λo=>m c _ f o.symm)⟩
def EL(w:W_)(a:Option A_)(k:Nat)(es:List Ep):Prop:=
 es.length=k/\k<=maxLen/\(0<k->∃b off,a=some ⟨b,off,none⟩/\b<w.heap.size/\∀i e,es[i]?=some e->∃ai ni ci,w.cell? ⟨b,off+i*2,none⟩=Zb e.num/\w.cell? ⟨b,off+i*2+1,none⟩=some (.slice ai ni ci)/\PL w ai ni e.aR/\ni<=ci)
theorem EL.later{w w':W_}{a:Option A_}{k:Nat}{f:List Ep}(o:EL w a k f)(b:OS w w'):EL w' a k f:=by
 have⟨h1,h2,t⟩:=o;refine⟨h1,h2,λj=>?_⟩;have⟨c,d,s,e,hc⟩:=t j;refine⟨c,d,s,by have:=b.size;omega,λi q h=>?_⟩;have⟨r,m,u,c1,c2,c3,c4⟩:=hc i q h;exact⟨r,m,u,(b.cell (p:=(c,d+i*2)) e).trans c1,(b.cell (p:=(c,d+i*2+1)) e).trans c2,c3.later b,c4⟩
theorem EL.at_(o:EL w a k Z)(i:Nat)(r:i<k):
 ∃b d h e c f,a=some ⟨b,d,none⟩/\b<w.heap.size/\Z[i]?=some h/\w.cell? ⟨b,d+i*2,none⟩=Zb h.num/\w.cell? ⟨b,d+i*2+1,none⟩=some (.slice e c f)/\PL w e c h.aR/\c<=f:=by
 have⟨h1,h2,q⟩:=o;have⟨b,d,p,m,hc⟩:=q (by omega);have j:Z[i]?=Z[i]:=Ox (by omega);have⟨e,c,f,c1,c2,c3⟩:=hc i _ j;exact⟨b,d,Z[i],e,c,f,p,m,j,c1,c2,c3⟩
theorem EL.drop{w:W_}{c b k:Nat}{f:List Ep}(o:EL w (some ⟨c,b,none⟩) k f)(j:Nat)(x:j<=k):EL w (some ⟨c,b+j*2,none⟩) (k-j) (f.drop j):=by
 have⟨h1,h2,r⟩:=o;refine⟨by rw[ge,h1],by omega,λt=>?_⟩;have⟨y,u,e,h,hc⟩:=r (by omega);simp only[Option.some.injEq,Addr.mk.injEq,US] at e;obtain⟨rfl,rfl⟩:=e;refine⟨c,b+j*2,rfl,h,λi p d=>?_⟩;rw[Tt] at d;have⟨q,m,s,c1,c2,c3⟩:=hc (j+i) p d;rw[show b+(j+i)*2=b+j*2+i*2 by rw[Uv];omega] at c1 c2;exact⟨q,m,s,c1,c2,c3⟩
def ELA(B:Nat)(w:W_)(a:Option A_)(k:Nat)(es:List Ep):Prop:=
 es.length=k/\k<=maxLen/\(0<k->∃b off,a=some ⟨b,off,none⟩/\B<=b/\b<w.heap.size/\∀i e,es[i]?=some e->∃ai ni ci,w.cell? ⟨b,off+i*2,none⟩=Zb e.num/\w.cell? ⟨b,off+i*2+1,none⟩=some (.slice ai ni ci)/\PL w ai ni e.aR/\ni<=ci/\(0<ni->∀p,ai=some p->B<=p.block))
theorem ELA.grown(q:ELA B w a k Z)(b:w.grownBy u (some m))(C:m<B):ELA B u a k Z:=by
 have⟨h1,h2,x⟩:=q;refine⟨h1,h2,λc=>?_⟩;have⟨d,y,t,s,A,hc⟩:=x c;have f:∀o,some (⟨d,o,none⟩:A_).block≠some m:=λo e=>by have:d=m:=OG e;omega
 refine⟨d,y,t,s,by have:=b.size;omega,λj e h=>?_⟩;have⟨r,i,z,c1,c2,c3,c4,c5⟩:=hc j e h;exact⟨r,i,z,b.cell c1 (f _),b.cell c2 (f _),c3.grownBy b (λh0 p c e=>by have:=c5 h0 p c;have:m=p.block:=OG e;omega),c4,c5⟩
def Eps(B:Nat)(w:W_)(vs:List V_)(es:List Ep)(row:Option Nat):Prop:=
 ∀(i:Nat) (e:Ep),es[i]?=some e->∃(a:Option A_) (n c:Nat),vs[i*2]?=Zb e.num/\vs[i*2+1]?=(a,n,c)/\PL w a n e.aR/\n<=c/\(0<n->∀p,a=some p->row≠some p.block/\B<=p.block)
def dV(B:Nat)(w:W_)(base:Nat)(v:V_)(es:List Ep):Prop:=∃vs:List V_,w.ownsRow base 299 2 v es.length vs/\Eps B w vs es v.ownBlock
theorem Tryz.info299:(prog.info? 299).map (λi=>(i.zero,i.size,i.bytes))=some (some (.agg #[Zi,Zs]),2,32):=by kernel_rfl
theorem dV.nil(B:Nat)(w:W_)(base:Nat):dV B w base Zs []:=⟨[],t8 w base _ 2,λi e b=>by simp at b⟩
theorem dV.later{B:Nat}{w w':W_}{base:Nat}{v:V_}{c:List Ep}(h:dV B w base v c)(b:OS w w'):dV B w' base v c:=by
 have⟨j,h1,h2⟩:=h;refine⟨j,aW h1 b,λi m d=>?_⟩;have⟨a,n,o,f,q,e,p⟩:=h2 i m d;exact⟨a,n,o,f,q,e.later b,p⟩
theorem dV.lt{B:Nat}{w:W_}{base:Nat}{v:V_}{b:List Ep}(h:dV B w base v b):∀k,v.ownBlock=some k->base<=k/\k<w.heap.size:=by
 have⟨c,h1,_⟩:=h;exact World.ownsRow.lt h1
theorem dV.el(j:dV B w base v Z):∃a c,v=.slice a Z.length c/\Z.length<=c/\EL w a Z.length Z:=by
 have⟨C,h1,h2⟩:=j;have⟨a,c,h,z,b,A⟩:=aF h1;refine⟨a,c,h,z,rfl,b.2.1,λh0=>?_⟩;have⟨m,x,u,e,hc⟩:=b.2.2 h0;refine⟨m,x,u,e,λi q d=>?_⟩;have⟨r,f,y,p,t,o,s,_⟩:=h2 i q d;exact⟨r,f,y,hc _ _ p,hc _ _ t,o,s⟩
theorem Di(h1:w.ownsRow base 299 2 v Z.length G)(h2:Eps B w G Z v.ownBlock)(H:Eps B w D f v.ownBlock)(P:f.length=m)(M:u.ownsRow base 299 2 V (Z.length+m) (G++D))(I:w.grownBy u v.ownBlock)(N:V.ownBlock=v.ownBlock\/V.ownBlock=w):dV B u base V (Z++f):=by
 have L:∀(p:A_),p.block<w->v.ownBlock≠some p.block->V.ownBlock≠some p.block:=by
  intro p C j e;rcases N with r|r
  ·exact j (r.symm.trans e)
  ·rw[r] at e;simp at e;omega
 have A:G.length=Z.length*2:=h1.1;refine⟨G++D,by rw[OC,P];exact M,λi e o=>?_⟩;have E:∀{b:Option A_} {c:Nat} {l:List Pt},PL w b c l->(0<c->∀p,b=some p->v.ownBlock≠some p.block/\B<=p.block)->PL u b c l/\(0<c->∀p,b=some p->V.ownBlock≠some p.block/\B<=p.block):=by
  intro b c l F j;refine⟨F.grownBy I (λh0 p d=>(j h0 p d).1),λh0 p d=>⟨?_,(j h0 p d).2⟩⟩;have⟨Q,R,O,C,_⟩:=F.2.2.2 h0;have K:=d;rw[O] at d;cases d
  exact L _ C (j h0 _ K).1
 by_cases J:i<Z.length
 ·rw[OO J] at o;have⟨b,c,q,t,z,s,y,x⟩:=h2 i e o;have h:=E s x;exact⟨b,c,q,by rw[OO (by omega)];exact t,by rw[OO (by omega)];exact z,h.1,y,h.2⟩
 ·rw[ON (by omega)] at o;have⟨b,c,q,t,z,s,y,x⟩:=H _ e o;have h:=E s x;refine⟨b,c,q,?_,?_,h.1,y,h.2⟩
  ·rw[ON (by omega),A,show i*2-Z.length*2=(i-Z.length)*2 by omega];exact t
  ·rw[ON (by omega),A,show i*2+1-Z.length*2=(i-Z.length)*2+1 by omega];exact z
theorem dV.ela(q:dV B w base v Z)(E:B<=base):∃a c,v=.slice a Z.length c/\Z.length<=c/\ELA B w a Z.length Z:=by
 have⟨F,h1,h2⟩:=q;have⟨a,c,m,D,e,b⟩:=aF h1;refine⟨a,c,m,D,rfl,e.2.1,λh0=>?_⟩;have⟨d,A,f,i,hc⟩:=e.2.2 h0;have G:base<=d:=b _ f;refine⟨d,A,f,by omega,i,λo t h=>?_⟩;have⟨x,j,C,s,z,r,y,u⟩:=h2 o t h;exact⟨x,j,C,hc _ _ s,hc _ _ z,r,y,λh0 p b=>(u h0 p b).2⟩
theorem l5(A:O.guard=none)(J:O.op=Op.call {callee:=Callee.builtin Builtin.append,args:=#[K,I],argTypes:=#[231,231]})(B base:Nat)(f:List Ep)(m:dV B w base (N.eval K) f)(z:Int)(b:Option A_)(n c:Nat)(h:List Pt)(o:PL w b n h)(hc:n<=c)(q:0<n->∀p,b=some p->(N.eval K).ownBlock≠some p.block/\B<=p.block)(S:N.eval I=(w,1,1))(X:f.length<=100000)(Z:base<=w)(H:∀i u,dV B u base i (f++[⟨z,h⟩])->w.grownBy u (N.eval K).ownBlock->F (N.put O.dst i) u):
 if Region.wanted O (yielded P N.tmps)=true then Oper.wp prog O N (w.alloc (.cells #[z,(b,n,c)] 299)) F M else E:=by
 have V:Region.wanted O (yielded P N.tmps)=true:=by simp[Region.wanted,A]
 rw[UY V];have⟨t,h1,h2⟩:=m.later (af (v:=w) (P:=.cells #[z,(b,n,c)] 299));have⟨r,G,s,C,U⟩:=info_parts Tryz.info299;have⟨i,u,x,T,e,_,y⟩:=run_append_own_at (P:=prog) (w.alloc (.cells #[z,(b,n,c)] 299)) base 231 O.type 299 r _ 2 32 Tryz.underlying231 G s C U rfl (by decide) (N.eval K) f.length t h1 ⟨w,0,none⟩ 1 1 [Zb z,(b,n,c)] rfl (λab Y R=>by
  rw[GT,lw];simpa using R) (by simp[Value.oneCell']) (by unfold maxLen;omega) (by omega) (by simp;omega)
 have D:Eps B (w.alloc (.cells #[z,(b,n,c)] 299)) [Zb z,(b,n,c)] [⟨z,h⟩] (N.eval K).ownBlock:=by
  intro j W d
  match j,d with
  |0,d=>
   simp at d;subst d;exact⟨b,n,c,rfl,rfl,o.later (af),hc,q⟩
  |j+1,d=>simp at d
 unfold Oper.wp execOp;simp only[J,resolve,invoke,builtin,T7,Uw,T6,Ul,i7,rx,S,x];exact H _ _ (Di h1 h2 D rfl T e y) ⟨e.os,e.tape,e.output,by have:=e.size;simp at this;omega,λk L Q=>(e.block k (by simp;omega) Q).trans (pi w _ k L)⟩
end
theorem ak(h:u.grownBy W (some m))(o:Nat)(v:V_):u.grownBy (W.setCell (m,o) v) (some m):=
  ⟨h.os,h.tape,h.output,by have:=h.size;simpa[World.setCell] using this,λk c b=>(jp W ⟨m,o,none⟩ v k (λe=>b (by rw[e]))).trans (h.block k c b)⟩
theorem cZ(h:u.grownBy W J):u.grownBy W.drew J:=⟨h.os,h.tape,h.output,h.size,h.block⟩
theorem rn(h:u.grownBy W J):u.grownBy (W.alloc A) J:=h.trans (World.grownBy_alloc W A J)
theorem au(w:W_):w.grownBy w J:=⟨rfl,rfl,rfl,OJ _,λ_ _ _=>rfl⟩
theorem nY(h:u.grownBy W (some m))(o:Nat)(x:B8):u.grownBy (aV W m o x) (some m):=
  ak (ak (ak (ak (ak (ak (ak (ak h _ _) _ _) _ _) _ _) _ _) _ _) _ _) _ _
theorem aw(h:¬m=j)(v:V_):(u.setCell (m,c) v).cell? (j,i)=u.cell? (j,i):=World.cell?_setCell_far u ⟨m,c,none⟩ ⟨j,i,none⟩ v h
theorem aq(h:m<u)(o:Obj):(u.alloc o).cell? (m,i)=u.cell? (m,i):=(af (v:=u) (P:=o)).cell (p:=⟨m,i,none⟩) h
theorem an:u.drew.cell? t=u.cell? t:=rfl
def Oc(o:Option B8):List V_:=[Za (o.getD zB).z0,Za (o.getD zB).z1,Za (o.getD zB).z2,Za (o.getD zB).z3,Za (o.getD zB).z4,Za (o.getD zB).z5,Za (o.getD zB).z6,Za (o.getD zB).z7,Zl o.isSome]
def jV(fs:List (Option B8)):List V_:=fs.flatMap Oc
theorem Dn:(jV X).length=X.length*9:=gd _ 9 (λ_=>rfl) X
def LB(w:W_)(g:Nat)(fs:List (Option B8)):Prop:=fs.length=32/\Bx w g (jV fs).toArray 293
theorem LB.at_(h:LB u m X)(j:Nat)(p:j<32):
    ∃o:Option B8,X[j]?=some o/\u.cell? ⟨m,j*9,none⟩=some (.int .u8 (o.getD zB).z0)/\u.cell? ⟨m,j*9+1,none⟩=some (.int .u8 (o.getD zB).z1)/\u.cell? ⟨m,j*9+2,none⟩=some (.int .u8 (o.getD zB).z2)/\
      u.cell? ⟨m,j*9+3,none⟩=some (.int .u8 (o.getD zB).z3)/\u.cell? ⟨m,j*9+4,none⟩=some (.int .u8 (o.getD zB).z4)/\u.cell? ⟨m,j*9+5,none⟩=some (.int .u8 (o.getD zB).z5)/\
      u.cell? ⟨m,j*9+6,none⟩=some (.int .u8 (o.getD zB).z6)/\u.cell? ⟨m,j*9+7,none⟩=some (.int .u8 (o.getD zB).z7)/\u.cell? ⟨m,j*9+8,none⟩=some (.bool o.isSome):=by
  have f:j<X.length:=by have:=h.1;omega
  have d:X[j]?=some X[j]:=Ox f
  have e:=λi (b:i<9)=>dJ Oc (λ_=>rfl) X j _ d b
  have c:=λi (b:i<9)=>(h.2.cell (j*9+i)).trans ((OB ..).trans (e i b))
  exact⟨X[j],d,c 0 (by omega),c 1 (by omega),c 2 (by omega),c 3 (by omega),c 4 (by omega),c 5 (by omega),c 6 (by omega),c 7 (by omega),c 8 (by omega)⟩
theorem FK{α:Type}(L:List α)(j o d q e h c b f:α)(z:m+9<=L.length):
    ((((((((L.set m j).set (m+1) o).set (m+2) d).set (m+3) q).set (m+4) e).set (m+5) h).set (m+6) c).set (m+7) b).set (m+8) f=L.take m++[j,o,d,q,e,h,c,b,f]++L.drop (m+9):=by
  have y:L=L.take m++((L.drop m).take 9++L.drop (m+9)):=by
    rw[show L.drop (m+9)=(L.drop m).drop 9 by rw[List.drop_drop],qr,qr]
  have r:(L.take m).length=m:=by rw[OM];omega
  have x:((L.drop m).take 9).length=9:=by rw[OM,ge];omega
  generalize L.take m=A at*
  generalize (L.drop m).take 9=B at*
  generalize L.drop (m+9)=C at*
  match B,x with
  |[b0,b1,b2,b3,b4,b5,b6,b7,b8],_=>
    subst y
    subst r
    have p:=λ(X:List α) (u:Nat) (v:α)=>TO (s:=A) (t:=X) (A.length+u) v (by omega)
    have i:=λ(X:List α) (v:α)=>TO (s:=A) (t:=X) A.length v (OJ _)
    simp only[Nat.add_sub_cancel_left,TK] at p i
    simp only[p,i,i6,pp,Eq,Do,eq]
def Ce(w:W_)(g o:Nat)(x:B8):W_:=(aV w g o x).setCell ⟨g,o+8,none⟩ (Zl true)
theorem LB.put(h:LB u m X)(j:Nat)(f:j<32)(x:B8):LB (Ce u m (j*9) x) m (X.set j (some x)):=by
  have d:=h.1
  refine⟨by rw[t9];exact d,?_⟩
  have b:=((((((((h.2.set (j*9) (Za x.z0)).set (j*9+1) (Za x.z1)).set (j*9+2) (Za x.z2)).set (j*9+3) (Za x.z3)).set (j*9+4) (Za x.z4)).set (j*9+5) (Za x.z5)).set (j*9+6) (Za x.z6)).set (j*9+7) (Za x.z7)).set (j*9+8) (Zl true)
  have e:jV (X.set j (some x))=(jV X).take (j*9)++Oc (some x)++(jV X).drop (j*9+9):=pb Oc 9 (λ_=>rfl) X j (some x) (by omega)
  have c:((((((((((jV X).toArray.setIfInBounds (j*9) (Za x.z0)).setIfInBounds (j*9+1) (Za x.z1)).setIfInBounds (j*9+2) (Za x.z2)).setIfInBounds (j*9+3) (Za x.z3)).setIfInBounds (j*9+4) (Za x.z4)).setIfInBounds (j*9+5) (Za x.z5)).setIfInBounds (j*9+6) (Za x.z6)).setIfInBounds (j*9+7) (Za x.z7)).setIfInBounds (j*9+8) (Zl true))=(jV (X.set j (some x))).toArray:=by
    apply Array.ext'
    simp only[Array.toList_setIfInBounds]
    rw[FK (jV X) (m:=j*9) _ _ _ _ _ _ _ _ _ (by rw[Dn];omega),e]
    rfl
  rw[c] at b
  exact b
theorem LB.later{w w':W_}{g B:Nat}{b:List (Option B8)}(h:LB w g b)(c:Below B w w')(d:g<B):LB w' g b:=⟨h.1,h.2.later c d⟩
theorem LB.drew{w:W_}{g:Nat}{b:List (Option B8)}(h:LB w g b):LB w.drew g b:=h
theorem Dw(h:u.grownBy W (some m)):u.grownBy (Ce W m c d) (some m):=ak (nY h c d) _ _
theorem Mx.Cq(h:R[m]?=some s):eC X (R.take (m+1))=(eC X (R.take m)).set s.at_.toNat (some s.d):=by
  unfold eC
  rw[az _ _ h,dT]
  rfl
set_option maxHeartbeats 4000000 in
set_option maxRecDepth 100000 in
theorem qw(V:Nat)(r:LB u c X)(f:PL u q m R)(N:0<m->∀p,q=some p->p.block≠c)(F:∀q∈R,0<=q.at_/\q.at_<32):
    C_ prog 171 #[(c,0),(q,m,V)] u λt b=>t=Zr #[]/\H_ (LB b c (eC X R))/\H_ (u.grownBy b (some c)):=by
  have ah:m<=maxLen:=f.2.2.1
  unfold maxLen at ah
  have S:=Y f
  have HN:=Y f.1
  have W:=Y F
  have ag:=Y N
  have HL:=Y r
  have ai:=r.2.lt
  clear f F N r
  go_enter func171,ntmps171
  go_wp2
  go_loopw [8] (λA wr=>∃k:Nat,k<=m/\A=Zb (k:Int)/\H_ (LB wr c (eC X (R.take k)))/\H_ (u.grownBy wr (some c))) (λA _=>m - (intOf A).toNat)
  case atStart=>exact⟨0,by omega,rfl,HL,au _⟩
  case round=>
    obtain⟨k,hk,rfl,o,s⟩:=hrel
    by_cases ab:k<m
    · obtain⟨ao,ap,p,ad,al,x,L,T,e2,e3,e4,U,e6,e7,e8⟩:=(S.grownBy s (λh0 p f t=>ag h0 p f (OG t).symm)).at_ k ab
      subst ad
      have h:=W p (OR x)
      obtain⟨j,z⟩:=TA h.1
      have Q:=Y x
      have HJ:=Y z
      rw[z] at L h
      have am:(j:Int)<32:=h.2
      have H:j<32:=by omega
      have ak:(0:Int)<=(j:Int):=h.1
      clear x z h
      obtain⟨e,i⟩:∃e:W_,H_ (e=wr.alloc (.cells (Zq (j:Int) p.d) 123)):=⟨_,rfl⟩
      have d:=Y (show Bx e wr (Zq (j:Int) p.d) 123 by rw[i];exact Bx.new wr _ _)
      have y:=Y (show LB e c _ by rw[i];exact o.later (af) o.2.lt)
      have P:=Y (show u.grownBy e (some c) by rw[i];exact rn s)
      have ae:¬c=wr:=by have:=o.2.lt;omega
      go_wp2
      rw[<- i]
      clear L T e2 e3 e4 U e6 e7 e8
      have J:=d.cell 0
      have p1:=d.cell 1
      have p2:=d.cell 2
      have O:=d.cell 3
      have I:=d.cell 4
      have M:=d.cell 5
      have G:=d.cell 6
      have D:=d.cell 7
      have C:=d.cell 8
      simp only[OB,Oz,OA] at J p1 p2 O I M G D C
      obtain⟨aj,_,y0,y1,y2,y3,y4,y5,y6,y7,y8⟩:=y.at_ j H
      have yz:=y.2.frozen
      have E:=Y (show LB (Ce e c (j*9) p.d).drew c (eC X (R.take (k+1)))/\u.grownBy (Ce e c (j*9) p.d).drew (some c) from by
        rw[Cq Q,HJ,m6]
        exact⟨(y.put j H p.d).drew,cZ (Dw P)⟩)
      go_region_held (λb=>b.cell? wr=some (.int .i64 (j:Int))/\b.cell? (wr,1)=some (.int .u8 p.d.z0)/\b.cell? (wr,2)=some (.int .u8 p.d.z1)/\b.cell? (wr,3)=some (.int .u8 p.d.z2)/\b.cell? (wr,4)=some (.int .u8 p.d.z3)/\b.cell? (wr,5)=some (.int .u8 p.d.z4)/\b.cell? (wr,6)=some (.int .u8 p.d.z5)/\b.cell? (wr,7)=some (.int .u8 p.d.z6)/\b.cell? (wr,8)=some (.int .u8 p.d.z7))
        ((simp only[an,aw ae];with_reducible exact⟨J,p1,p2,O,I,M,G,D,C⟩)) (fail)
      go_wp2
      go_roundw
      case rel=>exact⟨k+1,by omega,by go_num,E.1,E.2⟩
      case measure=>simp[intOf];omega
    · have Z:=Y (show LB wr c (eC X R) by
        have K:=o
        rw[OL (by rw[HN];omega)] at K
        exact K)
      go_wp2
      exact bodyPost_end (v:=.tuple #[]) (by simp[results,results171,go_sem]) rfl ⟨rfl,Z,s⟩
def Mx.Iu(k:Nat):Option B8->List Pt
  |none=>[]
  |some d=>[⟨(k:Int),d⟩]
theorem Mx.uF(h:X[m]?=some r):bj 0 (X.take (m+1))=bj 0 (X.take m)++Iu m r:=by
  have b:m<X.length:=(OI.1 h).1
  rw[az _ _ h,rO,OM,Uj (by omega),m9]
  cases r<;>rfl
theorem Mx.wZ(k:Nat)(b:List (Option B8)):(bj k b).length<=b.length:=by
  induction b generalizing k with
  |nil=>exact OJ _
  |cons o b c=>
    cases o with
    |none=>have:=c (k+1);simp only[bj,fd];omega
    |some d=>have:=c (k+1);simp only[bj,fd];omega
set_option maxHeartbeats 4000000 in
set_option maxRecDepth 100000 in
theorem xd(G:LB u m X):
    C_ prog 172 #[(m,0)] u λah b=>∃h f,ah=Zv (.slice h (bj 0 X).length f)/\H_ (bt b u (.slice h (bj 0 X).length f) (bj 0 X))/\H_ (Below u u b):=by
  have Z:=Y G
  have T:=G.2.lt
  clear G
  go_enter func172,ntmps172
  go_wp2
  go_loopw [3,8] (λak R wr=>∃(k:Nat) (h:Option A_) (f:Nat),k<=32/\R=Zb (k:Int)/\ak=.slice h (bj 0 (X.take k)).length f/\H_ (bt wr u (.slice h (bj 0 (X.take k)).length f) (bj 0 (X.take k)))/\H_ (Below u u wr)) (λ_ R _=>32 - (intOf R).toNat)
  case atStart=>exact⟨0,none,0,by omega,rfl,rfl,t8 _ _ _ _,ce _ _⟩
  case round=>
    obtain⟨k,h,f,hk,rfl,rfl,C,o⟩:=hrel
    have V:=Y (show(bj 0 (X.take k)).length<=32 by have:=wZ 0 (X.take k);rw[OM] at this;omega)
    by_cases aj:k<32
    · obtain⟨ag,ho,s,z,p,q,t,y,A,r,x⟩:=(Z.o.later o.o T).at_ k aj
      have M:=Y (uF ho)
      obtain⟨L,hL⟩:∃L,H_ (L=bj 0 (X.take k)):=⟨_,rfl⟩
      rw[<- hL.o] at C V M ⊢
      have al:(k:Int)<32:=by omega
      have ab:m<wr:=OE T o.o.size
      have am:¬wr=m:=by omega
      clear ho
      cases ag with
      |none=>
        dsimp only[Option.getD,Option.isSome] at s z p q t y A r x
        go_wp2_with fail
        go_region_held (λb=>b.cell? ⟨m,k*9,none⟩=some (.int .u8 zB.z0)/\b.cell? ⟨m,k*9+1,none⟩=some (.int .u8 zB.z1)/\b.cell? ⟨m,k*9+2,none⟩=some (.int .u8 zB.z2)/\b.cell? ⟨m,k*9+3,none⟩=some (.int .u8 zB.z3)/\b.cell? ⟨m,k*9+4,none⟩=some (.int .u8 zB.z4)/\b.cell? ⟨m,k*9+5,none⟩=some (.int .u8 zB.z5)/\b.cell? ⟨m,k*9+6,none⟩=some (.int .u8 zB.z6)/\b.cell? ⟨m,k*9+7,none⟩=some (.int .u8 zB.z7)/\b.cell? ⟨m,k*9+8,none⟩=some (.bool false))
          ((simp only[an,aq ab];with_reducible exact⟨s,z,p,q,t,y,A,r,x⟩)) (fail)
        obtain⟨e,i⟩:∃e:W_,H_ (e=(wr.alloc (.cells #[Za zB.z0,Za zB.z1,Za zB.z2,Za zB.z3,Za zB.z4,Za zB.z5,Za zB.z6,Za zB.z7,Zl false] 291)).drew):=⟨_,rfl⟩
        rw[<- i.o]
        have c:=Y (show Bx e wr #[Za zB.z0,Za zB.z1,Za zB.z2,Za zB.z3,Za zB.z4,Za zB.z5,Za zB.z6,Za zB.z7,Zl false] 291 by rw[i.o];exact Bx.dC wr _ _)
        have E:=Y (show Below wr wr e by rw[i.o];exact(af).drew)
        have D:=Y (o.o.trans (E.o.mono o.o.size))
        have F:=Y (show bt e u _ _ from aW C.o E.o)
        clear s z p q t y A r x
        have J:=c.o.cell 0
        have Q:=c.o.cell 1
        have S:=c.o.cell 2
        have P:=c.o.cell 3
        have K:=c.o.cell 4
        have H:=c.o.cell 5
        have I:=c.o.cell 6
        have N:=c.o.cell 7
        have O:=c.o.cell 8
        simp only[OB,Oz,OA] at J Q S P K H I N O
        have j:=Y (show bj 0 (X.take (k+1))=L by rw[M.o,Iu,m7])
        go_wp2
        go_roundw
        case rel=>
          refine⟨k+1,h,f,by omega,by go_num,by rw[j.o],?_,D⟩
          rw[j.o]
          exact F
        case measure=>simp[intOf];omega
      |some d=>
        dsimp only[Option.getD,Option.isSome] at s z p q t y A r x
        go_wp2_with fail
        go_region_held (λb=>b.cell? ⟨m,k*9,none⟩=some (.int .u8 d.z0)/\b.cell? ⟨m,k*9+1,none⟩=some (.int .u8 d.z1)/\b.cell? ⟨m,k*9+2,none⟩=some (.int .u8 d.z2)/\b.cell? ⟨m,k*9+3,none⟩=some (.int .u8 d.z3)/\b.cell? ⟨m,k*9+4,none⟩=some (.int .u8 d.z4)/\b.cell? ⟨m,k*9+5,none⟩=some (.int .u8 d.z5)/\b.cell? ⟨m,k*9+6,none⟩=some (.int .u8 d.z6)/\b.cell? ⟨m,k*9+7,none⟩=some (.int .u8 d.z7)/\b.cell? ⟨m,k*9+8,none⟩=some (.bool true))
          ((simp only[an,aq ab];with_reducible exact⟨s,z,p,q,t,y,A,r,x⟩)) (fail)
        obtain⟨e,i⟩:∃e:W_,H_ (e=(wr.alloc (.cells #[Za d.z0,Za d.z1,Za d.z2,Za d.z3,Za d.z4,Za d.z5,Za d.z6,Za d.z7,Zl true] 291)).drew):=⟨_,rfl⟩
        rw[<- i.o]
        have c:=Y (show Bx e wr #[Za d.z0,Za d.z1,Za d.z2,Za d.z3,Za d.z4,Za d.z5,Za d.z6,Za d.z7,Zl true] 291 by rw[i.o];exact Bx.dC wr _ _)
        have E:=Y (show Below wr wr e by rw[i.o];exact(af).drew)
        have D:=Y (o.o.trans (E.o.mono o.o.size))
        have F:=Y (show bt e u _ _ from aW C.o E.o)
        clear s z p q t y A r x
        have J:=c.o.cell 0
        have Q:=c.o.cell 1
        have S:=c.o.cell 2
        have P:=c.o.cell 3
        have K:=c.o.cell 4
        have H:=c.o.cell 5
        have I:=c.o.cell 6
        have N:=c.o.cell 7
        have O:=c.o.cell 8
        simp only[OB,Oz,OA] at J Q S P K H I N O
        have j:=Y (show bj 0 (X.take (k+1))=L++[⟨(k:Int),d⟩] by rw[M.o,Iu])
        go_wp2_with (at_builtin;refine eF (w:=e) rfl rfl u L ?c0 ⟨(k:Int),d⟩ ?c1 ?c2 ?c3 ?_)
        case c0=>exact F.o
        case c1=>rfl
        case c2=>have:=V.o;omega
        case c3=>exact D.o.size
        intro ai ae w3 W U
        have O3:=Y W
        have B3:=Y (D.o.grown U D.o.size (λad hi=>(World.ownsRow.lt F.o ad hi).1))
        clear W U
        go_wp2
        go_roundw
        case rel=>
          refine⟨k+1,some ai,ae,by omega,by go_num,by rw[j.o,OC]<;>rfl,?_,B3⟩
          rw[j.o,OC]
          exact O3
        case measure=>simp[intOf];omega
    · have j:=Y (show X.take k=X by rw[OL (by rw[Z.o.1];omega)])
      rw[j.o] at C ⊢
      go_wp2
      go_ret
      exact⟨h,f,rfl,C,o⟩
section
variable {k:Nat}{l:List Int}
structure Fr where
 kind:Int
 al:List Int
 nb:Nat
 bs:List Int
structure Sd where
 ses:Int
 base:Int
 q:List Fr
namespace Mx
def cO(f:Fr):Int:=if may f.kind f.al f.nb=0 then(if 9<f.al.length then 2 else 0) else may f.kind f.al f.nb
theorem zw{f:Fr}(h:may f.kind f.al f.nb≠0):cO f=may f.kind f.al f.nb:=by unfold cO;rw[UX h]
theorem My{f:Fr}(h:may f.kind f.al f.nb=0)(h2:9<f.al.length):cO f=2:=by unfold cO;rw[UY h,UY h2]
theorem wF{f:Fr}(h:may f.kind f.al f.nb=0)(h2:¬9<f.al.length):cO f=0:=by unfold cO;rw[UY h,UX h2]
theorem zx{f:Fr}(h:cO f=0):may f.kind f.al f.nb=0/\f.al.length<=9:=by
 unfold cO at h;split at h
 ·next h1=>
  split at h
  ·omega
  ·exact⟨h1,by omega⟩
 ·next h1=>exact absurd h h1
def lH:List Fr→Int
 | [] => 0
 | f :: l => if cO f = 0 then lH l else cO f
theorem qh{l:List Fr}(h:∀f∈l,cO f=0):lH l=0:=by
 induction l with
 |nil=>rfl
 |cons f l c=>rw[lH,UY (h f (li ..))];exact c (λg b=>h g (gt _ b))
theorem KW{l:List Fr}{f:Fr}(h:∀g∈l.take j,cO g=0)(b:l[j]?=f)(d:cO f≠0):lH l=cO f:=by
 induction l generalizing j with
 |nil=>simp at b
 |cons g l e=>
  cases j with
  |zero=>
   simp at b;subst b;rw[lH,UX d]
  |succ j=>
   rw[lH,UY (h g (by simp))];exact e (λx c=>h x (gt _ c)) (by simpa using b)
theorem KX{l:List Fr}(h:lH l=0):∀f∈l,cO f=0:=by
 induction l with
 |nil=>intro f b;cases b
 |cons g l c=>
  rw[lH] at h;split at h
  ·next h1=>
   intro f b;rcases ro.1 b with rfl|b
   ·exact h1
   ·exact c h f b
  ·next h1=>exact absurd h h1
def dZ(x:Int):Prop:=x<0\/2147483647<x
instance (x:Int):Decidable (dZ x):=by unfold dZ;infer_instance
def bO (s:Sd):Int:=if dZ s.ses∨dZ s.base then 1 else if 64<s.q.length then 2 else lH s.q
theorem Lh{s:Sd}(h:dZ s.ses\/dZ s.base):bO s=1:=by unfold bO;rw[UY h]
theorem Li{s:Sd}(h:¬(dZ s.ses\/dZ s.base))(h2:64<s.q.length):bO s=2:=by unfold bO;rw[UX h,UY h2]
theorem sQ{s:Sd}(h:¬(dZ s.ses\/dZ s.base))(h2:¬64<s.q.length):bO s=lH s.q:=by unfold bO;rw[UX h,UX h2]
theorem qo{s:Sd}(h:bO s=0):(0<=s.ses/\s.ses<=2147483647/\0<=s.base/\s.base<=2147483647)/\s.q.length<=64/\∀f∈s.q,cO f=0:=by
 unfold bO at h;split at h
 ·omega
 ·next h1=>
  split at h
  ·omega
  ·next h2=>
   unfold dZ at h1;exact⟨by omega,by omega,KX h⟩
end Mx
def FL(w:W_)(a:Option A_)(k:Nat)(fs:List Fr):Prop:=
 fs.length=k/\k<=maxLen/\(0<k->∃b off,a=some ⟨b,off,none⟩/\b<w.heap.size/\∀i f,fs[i]?=some f->∃a1 n1 c1 a2 c2,w.cell? ⟨b,off+i*3,none⟩=Zb f.kind/\w.cell? ⟨b,off+i*3+1,none⟩=some (.slice a1 n1 c1)/\w.cell? ⟨b,off+i*3+2,none⟩=some (.slice a2 f.nb c2)/\aD w a1 n1 f.al/\bm w a2 f.nb f.bs/\n1<=c1/\f.nb<=c2)
theorem FL.later{w w':W_}{a:Option A_}{k:Nat}{f:List Fr}(o:FL w a k f)(b:OS w w'):FL w' a k f:=by
 have⟨h1,h2,D⟩:=o;refine⟨h1,h2,λj=>?_⟩;have⟨c,d,C,e,hc⟩:=D j;refine⟨c,d,C,by have:=b.size;omega,λi y m=>?_⟩;have⟨s,q,c1,h,c2,t,A,r,z,u,x⟩:=hc i y m;exact⟨s,q,c1,h,c2,(b.cell (p:=(c,d+i*3)) e).trans t,(b.cell (p:=(c,d+i*3+1)) e).trans A,(b.cell (p:=(c,d+i*3+2)) e).trans r,z.later b,u.later b,x⟩
theorem FL.at_{d:List Fr}(p:FL u q k d)(i:Nat)(x:i<k):
 ∃b c f j e c1 h c2,q=some ⟨b,c,none⟩/\b<u.heap.size/\d[i]?=some f/\u.cell? ⟨b,c+i*3,none⟩=Zb f.kind/\u.cell? ⟨b,c+i*3+1,none⟩=some (.slice j e c1)/\u.cell? ⟨b,c+i*3+2,none⟩=some (.slice h f.nb c2)/\aD u j e f.al/\bm u h f.nb f.bs/\e<=c1/\f.nb<=c2:=by
 have⟨h1,h2,t⟩:=p;have⟨b,c,s,o,hc⟩:=t (by omega);have m:d[i]?=d[i]:=Ox (by omega);have⟨j,e,c1,h,c2,r⟩:=hc i _ m;exact⟨b,c,d[i],j,e,c1,h,c2,s,o,m,r⟩
theorem eb(b:Int)(j:Option A_)(c1 c2:Nat)(i:List Int)(h:aD u q m L)(h2:c<=maxLen):
 C_ prog 239 #[.agg #[b,(q,m,c1),(j,c,c2)]] u λx D=>x=Zv (aJ (cO ⟨b,L,c,i⟩))/\OS u D:=by
 have A:=Y h;have s:=Y h.1;have z:m<=maxLen:=h.2.1;have C:=Y h2;clear h h2;unfold maxLen at z;have y:=Y (Bx.new u #[b,(q,m,c1),(j,c,c2)] 308);go_enter func239,ntmps239;go_wp2_with fail;refine(nK b j c1 c2 (A.later (af)) C).mono ?_;rintro x I ⟨rfl,o⟩;have E:=Y (y.later o y.lt);have p:=Y ((af (v:=u)).trans (o.mono (by simp)));clear o;have⟨J,G,H⟩:=E.three;by_cases d:may b L c=0
 ·rw[d,aQ];by_cases t:(9:Int)<m
  ·have F:decide ((9:Int)<m)=true:=by simpa using t
   have e:=Y (My (f:=⟨b,L,c,i⟩) d (by have:=s.o;show 9<L.length;omega));clear d;go_wp2;go_ret;exact⟨by rw[e]<;>rfl,p⟩
  ·have F:decide ((9:Int)<m)=false:=by simpa using t
   have e:=Y (wF (f:=⟨b,L,c,i⟩) d (by have:=s.o;show ¬9<L.length;omega));clear d;go_wp2;go_ret;exact⟨by rw[e]<;>rfl,p⟩
 ·have e:=Y (zw (f:=⟨b,L,c,i⟩) d);have r:=Y (bJ d);rw[r];clear d;go_wp2;go_ret;exact⟨by rw[e];dsimp only;rw[r];rfl,p⟩
namespace Mx
theorem JT(h:¬dZ x):bH x=false:=by unfold dZ at h;unfold bH;simp;omega
def lD(l:List Int):Int:=if l.any bH then 1 else 0
theorem Cz(b:k<l.length)(h:dZ (l.getD k 0)):lD l=1:=by
 unfold lD;rw[UY];rw[Uc];refine⟨l[k],TJ b,?_⟩;rw[Oy,Ox b] at h;unfold dZ at h;unfold bH;simp at h ⊢;omega
theorem any_none(h:∀k,k<l.length->¬dZ (l.getD k 0)):lD l=0:=by
 unfold lD;rw[UX];intro h1;rw[Uc] at h1;have⟨x,e,h2⟩:=h1;obtain⟨k,d,rfl⟩:=List.getElem_of_mem e;have b:=h k d;rw[Oy,Ox d] at b;have c:=JT b;simp at c;rw[c] at h2;cases h2
end Mx
theorem kp(C:Nat)(e:aD u q m L)(F:m<=1000):
 C_ prog 241 #[(q,m,C)] u λA y=>A=Zv (aJ (lD L))/\y=u:=by
 have p:=Y e;have f:=Y e.1;clear e;go_enter func241,ntmps241;go_wp2;go_loopw [7] (λt wr=>∃k:Nat,k<=m/\t=Zb (k:Int)/\H_ (∀j,j<k->¬dZ (L.getD j 0))/\wr=u) (λt _=>m-(intOf t).toNat)
 case atStart=>exact⟨0,by omega,rfl,Y (λj b=>absurd b (by omega)),rfl⟩
 case round=>
  obtain⟨k,H,rfl,i,rfl⟩:=hrel;by_cases d:k<m
  ·have⟨G,J,x,s,_,o,I⟩:=p.at_ k d;subst s;have h:=Y o.symm;clear o;by_cases h1:x<0
   ·have z:decide (x<0)=true:=by simpa using h1
    have c:=Y (Cz (l:=L) (k:=k) (by rw[f];exact d) (by rw[<-h];exact .inl h1));go_wp2;go_ret;exact⟨by rw[c]<;>rfl,rfl⟩
   ·have z:decide (x<0)=false:=by simpa using h1
    by_cases h2:2147483647<x
    ·have D:decide (2147483647<x)=true:=by simpa using h2
     have c:=Y (Cz (l:=L) (k:=k) (by rw[f];exact d) (by rw[<-h];exact .inr h2));go_wp2;go_ret;exact⟨by rw[c]<;>rfl,rfl⟩
    ·have D:decide (2147483647<x)=false:=by simpa using h2
     have r:=Y (show ∀j,j<k+1->¬dZ (L.getD j 0) from λj b=>by
      by_cases E:j=k
      ·subst E
       rw[<-h];unfold dZ;omega
      ·exact i j (by omega))
     go_wp2;go_roundw
     case rel=>exact⟨k+1,by omega,by go_num,r,trivial⟩
     case measure=>simp[intOf];omega
  ·obtain rfl:k=m:=by omega
   have c:=Y (any_none (l:=L) (λj b=>i j (by rw[f] at b;exact b)));go_wp2;go_ret;exact⟨by rw[c]<;>rfl,rfl⟩
end
theorem aG:maxLen=9223372036854775807:=rfl
theorem Mx.pZ:lD [x,y]=if dZ x\/dZ y then 1 else 0:=by
 unfold lD dZ bH;simp
theorem mJ(ses base:Int)(t:Nat)(b:List Fr)(r:FL u q m b):
 C_ prog 217 #[.agg #[ses,base,(q,m,t)]] u λD w'=>D=Zv (aJ (bO ⟨ses,base,b⟩))/\OS u w':=by
 have ab:m<=maxLen:=r.2.1;rw[aG] at ab;have X:=Y r;have H:=Y r.1;clear r;have⟨j,p⟩:=ZX ((u.alloc (.cells #[ses,base,(q,m,t)] 237)).alloc (.cells #[ses,base] 3));have X1:H_ (Bx j u #[ses,base,(q,m,t)] 237):=(by rw[p];exact(Bx.new u _ _).alloc _);have F:=Y (show Bx j (u+1) #[ses,base] 3 by
  rw[p];have h:=Bx.new (u.alloc (.cells #[ses,base,(q,m,t)] 237)) #[ses,base] 3;rw[dl] at h;exact h)
 have I1:=Y (show aD j (some ⟨u+1,0,none⟩) 2 [ses,base] from⟨rfl,by rw[aG];omega,λ_=>⟨u+1,0,rfl,F.lt,λad o=>by
  match ad,o with
  |0,_=>exact F.cell 0
  |1,_=>exact F.cell 1⟩⟩)
 have x:H_ (OS u j):=(by rw[p];exact(af).alloc (by simp) _);have⟨x0,x1,x2⟩:=X1.three;go_enter func217,ntmps217;go_wp2_with fail;rw[<-p];refine(kp 2 I1 (by omega)).mono ?_;rintro D wz ⟨rfl,S⟩;obtain rfl:=S.symm;clear S;by_cases d:dZ ses\/dZ base
 ·have z:=Y (show lD [ses,base]=1 by rw[pZ,UY d]);have e:=Y (Lh (s:=⟨ses,base,b⟩) d);have Z:aJ 1=Zf 1:=rfl;rw[z,Z];clear d;go_wp2_with fail;go_ret;exact⟨by rw[e]<;>rfl,x⟩
 have M:=Y d;have z:=Y (show lD [ses,base]=0 by rw[pZ,UX d]);rw[z,aQ];clear d;by_cases A:(64:Int)<m
 ·have d5:decide ((64:Int)<m)=true:=by simpa using A
  have e:=Y (Li (s:=⟨ses,base,b⟩) M (by have:=H.o;show 64<b.length;omega));go_wp2_with fail;go_ret;exact⟨by rw[e]<;>rfl,x⟩
 have d5:decide ((64:Int)<m)=false:=by simpa using A
 have e:=Y (sQ (s:=⟨ses,base,b⟩) M (by have:=H.o;show ¬64<b.length;omega));have al:m<=64:=by omega
 clear A;go_wp2_with fail;go_loopw [24] (λI wr=>∃k:Nat,k<=m/\I=Zb (k:Int)/\H_ (∀g∈b.take k,cO g=0)/\H_ (OS j wr)) (λI _=>m-(intOf I).toNat)
 case atStart=>exact⟨0,by omega,rfl,Y (λg i=>by simp at i),(ce _ _)⟩
 case round=>
  obtain⟨k,hk,rfl,G,U⟩:=hrel;have P:=Y (x.t U);by_cases ag:k<m
  ·have⟨an,ao,ak,a1,n1,c1,Q,c2,aj,am,W,e0,e1,e2,o,E,_⟩:=(X.later P).at_ k ag;subst aj;have N:=Y W;have⟨C,nm,O,K⟩:=ak;dsimp only at e0 e1 e2 o E;have⟨w2,T⟩:=ZX (wr.alloc (.cells #[C,(a1,n1,c1),(Q,O,c2)] 308));have J:=beA T;have HI:=Y (o.later J);have ae:=Y E;have ai:=Y (U.t J);clear W o E;go_wp2_with fail;rw[<-T];refine(eb C Q c1 c2 K HI ae.2.1).mono ?_;rintro D w3 ⟨rfl,ah⟩;have V:=Y (ai.t ah);by_cases f:cO ⟨C,nm,O,K⟩=0
   ·have HG:=Y (show ∀g∈b.take (k+1),cO g=0 from λg i=>by
     rw[az _ _ N] at i;rcases ip.1 i with h|h
     ·exact G g h
     ·simp at h
      subst h;exact f)
    rw[f,aQ];clear f;go_wp2_with fail;go_roundw
    case rel=>exact⟨k+1,by omega,by go_num,HG,V⟩
    case measure=>simp[intOf];omega
   ·have y:=Y (KW G N f);have R:=Y (bJ f);rw[R];clear f;go_wp2_with fail;go_ret;exact⟨by rw[e,y,R]<;>rfl,x.t V⟩
  ·obtain rfl:k=m:=by omega
   have y:=Y (qh (l:=b) (λg i=>G g (by rw[OL (by rw[H];omega)];exact i)));go_wp2_with fail;go_ret;exact⟨by rw[e,y]<;>rfl,P⟩
section
variable {w:W_}{a:Option A_}{n B k base:Nat}{l:List Int}{v:V_}
theorem aD.row(i:aD w a n l):dt w a n 1 (l.map (Value.int .i64)):=by
 have⟨h1,h2,h⟩:=i;refine⟨by rw[pm,h1,Nat.mul_one],h2,λf=>?_⟩;have⟨m,p,o,e,hc⟩:=h f;refine⟨m,p,o,e,λj u b=>?_⟩;have d:j<l.length:=by have:=(OI.1 b).1;simpa using this
 have c:=hc j (by omega);rw[i8,Ox d] at b;rw[Oy,Ox d] at c;simp at b c;rw[c,b]
theorem aD.lW(d:l.length=n)(h:dt w a n 1 (l.map (Value.int .i64))):aD w a n l:=by
 have⟨_,h2,f⟩:=h;refine⟨d,h2,λe=>?_⟩;have⟨j,o,m,c,hc⟩:=f e;refine⟨j,o,m,c,λi p=>?_⟩;have b:i<l.length:=by omega
 apply hc i _;rw[i8,Ox b,Oy,Ox b];rfl
theorem bm.row(i:bm w a n l):dt w a n 8 (l.map (Value.int .u8)):=by
 have⟨h1,h2,_,h⟩:=i;refine⟨by rw[pm,h1,Nat.mul_comm],h2,λf=>?_⟩;have⟨m,p,o,e,hc⟩:=h f;refine⟨m,p,o,e,λj u b=>?_⟩;have d:j<l.length:=by have:=(OI.1 b).1;simpa using this
 have c:=hc j (by omega);rw[i8,Ox d] at b;rw[Oy,Ox d] at c;simp at b c;rw[c,b]
theorem bm.lW(d:l.length=8*n)(m:∀x∈l,0<=x/\x<=255)(h:dt w a n 8 (l.map (Value.int .u8))):bm w a n l:=by
 have⟨_,h2,f⟩:=h;refine⟨d,h2,m,λe=>?_⟩;have⟨j,p,o,c,hc⟩:=f e;refine⟨j,p,o,c,λi q=>?_⟩;have b:i<l.length:=by omega
 apply hc i _;rw[i8,Ox b,Oy,Ox b];rfl
theorem dt.grownBy{w h:W_}{a:Option A_}{n b:Nat}{f:List V_}{e:Option Nat}(j:dt w a n b f)(c:w.grownBy h e)(q:0<n->∀p,a=some p->e≠some p.block):dt h a n b f:=by
 have⟨h1,h2,t⟩:=j;refine⟨h1,h2,λd=>?_⟩;have⟨m,x,i,y,hc⟩:=t d;exact⟨m,x,i,by have:=c.size;omega,λo u s=>c.cell (hc o u s) (λr=>q d _ i r.symm)⟩
theorem aD.grownBy{w c:W_}{a:Option A_}{n:Nat}{l:List Int}{b:Option Nat}(h:aD w a n l)(e:w.grownBy c b)(d:0<n->∀p,a=some p->b≠some p.block):aD c a n l:=aD.lW h.1 (h.row.grownBy e d)
theorem bm.grownBy{w c:W_}{a:Option A_}{n:Nat}{l:List Int}{b:Option Nat}(h:bm w a n l)(e:w.grownBy c b)(d:0<n->∀p,a=some p->b≠some p.block):bm c a n l:=bm.lW h.1 h.2.2.1 (h.row.grownBy e d)
theorem dt.off{w:W_}{a:Option A_}{n c:Nat}{e:List V_}(h:dt w a n c e):0<n->∀p,a=some p->p.block<w:=by
 intro h0 p b;have⟨i,j,f,d,_⟩:=h.2.2 h0;rw[f] at b;cases b
 exact d
theorem qJ(c:Nat)(e:aD u q m L)(X:m<=1000000):
 C_ prog 252 #[(q,m,c)] u λH W=>∃b c2,H=Zv (.slice b m c2)/\H_ (aD W b m L)/\H_ (m<=c2)/\H_ (∀p,b=some p->u.heap.size<=p.block)/\H_ (OS u W):=by
 have af:∀(u:W_) (q:Option A_) (m c f i:Nat),(binOp .eql 224 (q,m,c) (.slice none f i)).run prog u=.ok (Zl q.isNone) u:=λu q m c f i=>Lib.run_eql_slice_nil u _ _ q m c f i Tryz.underlying224
 have d:=Y e.row;have x:=Y e.1;clear e;cases q with
 |none=>
  obtain⟨rfl,S⟩:=gQ d;have E:H_ (L=[]):=kw x;clear S;go_enter func252,ntmps252;go_wp2;go_ret;exact⟨none,0,rfl,Y (by rw[E];exact⟨rfl,by rw[aG];omega,λh=>absurd h (by omega)⟩),(OJ _),Y (λp A=>by cases A),(ce _ _)⟩
 |some O=>
  go_enter func252,ntmps252;have⟨F,T,G,M,U⟩:=info_parts Tryz.info3;go_wp2_with (at_builtin;refine UN _ rfl _ _ 224 rfl u 3 F _ 1 8 Tryz.underlying224 T G M U rfl (by decide) _ _ _ rfl (TL u #[] 0 (OJ _) (ol _) (by simp)) O m c (L.map (Value.int .i64)) rfl ?qc1 ?qc2 ?qc3 ?qc4 ?qc5 ?qc6 ?_);case qc1=>exact d.1
  case qc2=>
   intro Q t j;rcases Tu m with h|h
   ·subst h;rw[iE d] at j;simp at j
   ·have⟨ae,ag,J,ab,hc⟩:=d.2.2 h
    cases J
    rw[GT];exact Lib.cell?_alloc_some _ (hc Q t j)
  case qc3=>
   intro t K;obtain⟨Z,_,rfl⟩:=m8.1 K;rfl
  case qc4=>rw[aG];omega
  case qc5=>omega
  case qc6=>simp
  intro v' I o y z;have R:=Y o;have N:=Y y;clear o y z;have⟨b,c2,C,hc,r,s⟩:=aF R;subst C;have D:H_ (aD I b m L):=aD.lW x r;have V:=Y s;clear r s;go_wp2;go_ret;exact⟨b,c2,rfl,D,Y hc,V,(((ce _ u).alloc (OJ _) _).grown N (by simp) (by intro k P;simp[Value.ownBlock] at P;omega))⟩
theorem qK(c:Nat)(d:bm u q m L)(Z:m<=1000000):
 C_ prog 199 #[(q,m,c)] u λH W=>∃b c2,H=Zv (.slice b m c2)/\H_ (bm W b m L)/\H_ (m<=c2)/\H_ (∀p,b=some p->u.heap.size<=p.block)/\H_ (OS u W):=by
 have ag:∀(u:W_) (q:Option A_) (m c f i:Nat),(binOp .eql 76 (q,m,c) (.slice none f i)).run prog u=.ok (Zl q.isNone) u:=λu q m c f i=>Lib.run_eql_slice_nil u _ _ q m c f i Tryz.underlying76
 have e:=Y d.row;have x:=Y d.1;have S:=Y d.2.2.1;clear d;cases q with
 |none=>
  obtain⟨rfl,T⟩:=gQ e;have E:H_ (L=[]):=kw x;clear T;go_enter func199,ntmps199;go_wp2;go_ret;exact⟨none,0,rfl,Y (by rw[E];exact⟨rfl,by rw[aG];omega,by simp,λh=>absurd h (by omega)⟩),(OJ _),Y (λp A=>by cases A),(ce _ _)⟩
 |some O=>
  go_enter func199,ntmps199;have⟨F,U,G,M,V⟩:=info_parts Tryz.info65;go_wp2_with (at_builtin;refine UN _ rfl _ _ 76 rfl u 65 F _ 8 8 Tryz.underlying76 U G M V rfl (by decide) _ _ _ rfl (TL u #[] 0 (OJ _) (ol _) (by simp)) O m c (L.map (Value.int .u8)) rfl ?qc1 ?qc2 ?qc3 ?qc4 ?qc5 ?qc6 ?_);case qc1=>exact e.1
  case qc2=>
   intro Q t j;rcases Tu m with h|h
   ·subst h;rw[iE e] at j;simp at j
   ·have⟨af,ah,J,ae,hc⟩:=e.2.2 h
    cases J
    rw[GT];exact Lib.cell?_alloc_some _ (hc Q t j)
  case qc3=>
   intro t K;obtain⟨ab,_,rfl⟩:=m8.1 K;rfl
  case qc4=>rw[aG];omega
  case qc5=>omega
  case qc6=>simp
  intro v' I o y z;have R:=Y o;have N:=Y y;clear o y z;have⟨b,c2,C,hc,r,s⟩:=aF R;subst C;have D:H_ (bm I b m L):=bm.lW x S r;have X:=Y s;clear r s;go_wp2;go_ret;exact⟨b,c2,rfl,D,Y hc,X,(((ce _ u).alloc (OJ _) _).grown N (by simp) (by intro k P;simp[Value.ownBlock] at P;omega))⟩
def FLA(B:Nat)(w:W_)(a:Option A_)(k:Nat)(fs:List Fr):Prop:=
 fs.length=k/\k<=maxLen/\(0<k->∃b off,a=some ⟨b,off,none⟩/\B<=b/\b<w.heap.size/\∀i f,fs[i]?=some f->∃a1 n1 c1 a2 c2,w.cell? ⟨b,off+i*3,none⟩=Zb f.kind/\w.cell? ⟨b,off+i*3+1,none⟩=some (.slice a1 n1 c1)/\w.cell? ⟨b,off+i*3+2,none⟩=some (.slice a2 f.nb c2)/\aD w a1 n1 f.al/\bm w a2 f.nb f.bs/\n1<=c1/\f.nb<=c2/\(0<n1->∀p,a1=some p->B<=p.block)/\(0<f.nb->∀p,a2=some p->B<=p.block))
theorem FLA.nil(B:Nat)(w:W_):FLA B w none 0 []:=⟨rfl,by rw[aG];omega,λh=>absurd h (by omega)⟩
theorem FLA.fl{b:List Fr}(h:FLA B w a k b):FL w a k b:=by
 have⟨h1,h2,A⟩:=h;refine⟨h1,h2,λe=>?_⟩;have⟨j,C,z,_,c,hc⟩:=A e;refine⟨j,C,z,c,λi u f=>?_⟩;have⟨q,m,c1,d,c2,r,y,p,x,s,t,o,_⟩:=hc i u f;exact⟨q,m,c1,d,c2,r,y,p,x,s,t,o⟩
theorem FLA.later{B:Nat}{w w':W_}{a:Option A_}{k:Nat}{f:List Fr}(o:FLA B w a k f)(b:OS w w'):FLA B w' a k f:=by
 have⟨h1,h2,E⟩:=o;refine⟨h1,h2,λj=>?_⟩;have⟨c,d,D,r,e,hc⟩:=E j;refine⟨c,d,D,r,by have:=b.size;omega,λi z m=>?_⟩;have⟨t,q,c1,h,c2,u,C,s,A,x,y⟩:=hc i z m;exact⟨t,q,c1,h,c2,(b.cell (p:=(c,d+i*3)) e).trans u,(b.cell (p:=(c,d+i*3+1)) e).trans C,(b.cell (p:=(c,d+i*3+2)) e).trans s,A.later b,x.later b,y⟩
theorem FLA.grown{h:List Fr}(t:FLA B w a k h)(b:w.grownBy u (some m))(N:m<B):FLA B u a k h:=by
 have⟨h1,h2,K⟩:=t;refine⟨h1,h2,λc=>?_⟩;have⟨d,L,J,G,M,hc⟩:=K c;have f:∀o,some (⟨d,o,none⟩:A_).block≠some m:=λo e=>by have:d=m:=OG e;omega
 refine⟨d,L,J,G,by have:=b.size;omega,λs F r=>?_⟩;have⟨A,x,c1,q,c2,C,I,z,H,D,E,y,i,j⟩:=hc s F r;exact⟨A,x,c1,q,c2,b.cell C (f _),b.cell I (f _),b.cell z (f _),H.grownBy b (λh0 p c e=>by have:=i h0 p c;have:m=p.block:=OG e;omega),D.grownBy b (λh0 p c e=>by have:=j h0 p c;have:m=p.block:=OG e;omega),E,y,i,j⟩
def Fps(B:Nat)(w:W_)(vs:List V_)(fs:List Fr)(row:Option Nat):Prop:=
 ∀(i:Nat) (f:Fr),fs[i]?=some f->∃(a1:Option A_) (n1 c1:Nat) (a2:Option A_) (c2:Nat),vs[i*3]?=Zb f.kind/\vs[i*3+1]?=(a1,n1,c1)/\vs[i*3+2]?=(a2,f.nb,c2)/\aD w a1 n1 f.al/\bm w a2 f.nb f.bs/\n1<=c1/\f.nb<=c2/\
  (0<n1->∀p,a1=some p->row≠some p.block/\B<=p.block)/\(0<f.nb->∀p,a2=some p->row≠some p.block/\B<=p.block)
def cH(B:Nat)(w:W_)(base:Nat)(v:V_)(fs:List Fr):Prop:=∃vs:List V_,w.ownsRow base 308 3 v fs.length vs/\Fps B w vs fs v.ownBlock
theorem Tryz.infoFr:(prog.info? 308).map (λi=>(i.zero,i.size,i.bytes))=some (some (.agg #[Zi,Zs,Zs]),3,56):=by kernel_rfl
theorem cH.nil(B:Nat)(w:W_)(base:Nat):cH B w base Zs []:=⟨[],t8 w base _ 3,λi e b=>by simp at b⟩
theorem cH.later{B:Nat}{w w':W_}{base:Nat}{v:V_}{c:List Fr}(h:cH B w base v c)(b:OS w w'):cH B w' base v c:=by
 have⟨p,h1,h2⟩:=h;refine⟨p,aW h1 b,λi s e=>?_⟩;have⟨m,f,c1,d,c2,o,u,j,t,q,r⟩:=h2 i s e;exact⟨m,f,c1,d,c2,o,u,j,t.later b,q.later b,r⟩
theorem cH.lt{B:Nat}{w:W_}{base:Nat}{v:V_}{b:List Fr}(h:cH B w base v b):∀k,v.ownBlock=some k->base<=k/\k<w.heap.size:=by
 have⟨c,h1,_⟩:=h;exact World.ownsRow.lt h1
theorem cH.fla{c:List Fr}(r:cH B w base v c)(J:B<=base):∃a d,v=.slice a c.length d/\c.length<=d/\FLA B w a c.length c:=by
 have⟨K,h1,h2⟩:=r;have⟨a,d,o,I,f,b⟩:=aF h1;refine⟨a,d,o,I,rfl,f.2.1,λh0=>?_⟩;have⟨e,H,h,i,hc⟩:=f.2.2 h0;have L:base<=e:=b _ h;refine⟨e,H,h,by omega,i,λq C m=>?_⟩;have⟨y,s,c1,j,c2,x,G,u,E,z,A,t,D,F⟩:=h2 q C m;exact⟨y,s,c1,j,c2,hc _ _ x,hc _ _ G,hc _ _ u,E,z,A,t,λh0 p b=>(D h0 p b).2,λh0 p b=>(F h0 p b).2⟩
theorem tv{b L:List Fr}(h1:w.ownsRow base 308 3 v b.length G)(h2:Fps B w G b v.ownBlock)(T:Fps B w D L v.ownBlock)(U:L.length=m)(X:u.ownsRow base 308 3 V (b.length+m) (G++D))(P:w.grownBy u v.ownBlock)(S:V.ownBlock=v.ownBlock\/V.ownBlock=w):cH B u base V (b++L):=by
 have O:∀(p:A_),p.block<w->v.ownBlock≠some p.block->V.ownBlock≠some p.block:=by
  intro p Z f s;rcases S with F|F
  ·exact f (F.symm.trans s)
  ·rw[F] at s;simp at s;omega
 have A:G.length=b.length*3:=h1.1;have R:∀{e:Option A_} {d:Nat} {l:List Int},aD w e d l->(0<d->∀p,e=some p->v.ownBlock≠some p.block/\B<=p.block)->aD u e d l/\(0<d->∀p,e=some p->V.ownBlock≠some p.block/\B<=p.block):=
  λh f=>⟨h.grownBy P (λh0 p c=>(f h0 p c).1),λh0 p c=>⟨O _ (h.row.off h0 p c) (f h0 p c).1,(f h0 p c).2⟩⟩
 have N:∀{e:Option A_} {d:Nat} {l:List Int},bm w e d l->(0<d->∀p,e=some p->v.ownBlock≠some p.block/\B<=p.block)->bm u e d l/\(0<d->∀p,e=some p->V.ownBlock≠some p.block/\B<=p.block):=
  λh f=>⟨h.grownBy P (λh0 p c=>(f h0 p c).1),λh0 p c=>⟨O _ (h.row.off h0 p c) (f h0 p c).1,(f h0 p c).2⟩⟩
 refine⟨G++D,by rw[OC,U];exact X,λi Q q=>?_⟩;by_cases W:i<b.length
 ·rw[OO W] at q;have⟨J,E,c1,C,c2,r,z,I,x,t,K,H,M,y⟩:=h2 i Q q;have j:=R x M;have o:=N t y;exact⟨J,E,c1,C,c2,by rw[OO (by omega)];exact r,by rw[OO (by omega)];exact z,by rw[OO (by omega)];exact I,j.1,o.1,K,H,j.2,o.2⟩
 ·rw[ON (by omega)] at q;have⟨J,E,c1,C,c2,r,z,I,x,t,K,H,M,y⟩:=T _ Q q;have j:=R x M;have o:=N t y;refine⟨J,E,c1,C,c2,?_,?_,?_,j.1,o.1,K,H,j.2,o.2⟩
  ·rw[ON (by omega),A,show i*3-b.length*3=(i-b.length)*3 by omega];exact r
  ·rw[ON (by omega),A,show i*3+1-b.length*3=(i-b.length)*3+1 by omega];exact z
  ·rw[ON (by omega),A,show i*3+2-b.length*3=(i-b.length)*3+2 by omega];exact I
theorem uI(f:List Fr)(t:cH m w c V f){h0 c1 c2:Nat}(A:Bx w h0 #[x,(q,j,c1),(p,i,c2)] 308)(N:aD w q j L)(F:bm w p i S)(Q:j<=c1)(C:i<=c2)(y:0<j->∀b,q=some b->V.ownBlock≠some b.block/\m<=b.block)(D:0<i->∀b,p=some b->V.ownBlock≠some b.block/\m<=b.block)(W:f.length<=100000)(r:c<=w):
 ∃e u,(Builtin.append_ #[235,235] T #[V,(h0,1,1)]).run prog w=.ok e u/\cH m u c e (f++[⟨x,L,i,S⟩])/\w.grownBy u V.ownBlock:=by
 have⟨I,h1,h2⟩:=t;have⟨E,z,G,s,R⟩:=info_parts Tryz.infoFr;have⟨e,u,M,K,h,_,O⟩:=run_append_own_at (P:=prog) w c 235 T 308 E _ 3 56 Tryz.underlying235 z G s R rfl (by decide) V f.length I h1 ⟨h0,0,none⟩ 1 1 [Zb x,(q,j,c1),(p,i,c2)] rfl (λH U J=>by
  rw[GT,m9,A.cell H];simpa using J) (by simp[Value.oneCell']) (by rw[aG];omega) (by omega) r
 refine⟨e,u,M,tv h1 h2 (λo X d=>?_) rfl K h O,h⟩
 match o,d with
 |0,d=>
  simp at d;subst d;exact⟨q,j,c1,p,c2,rfl,rfl,rfl,N,F,Q,C,y,D⟩
 |o+1,d=>simp at d
theorem l8(J:O.guard=none)(t:O.op=Op.call {callee:=Callee.builtin Builtin.append,args:=#[K,I],argTypes:=#[235,235]}){fs:List Fr}(hs:N.eval K=v)(e:cH m w c v fs){h0:Nat}{kd:Int}{a1:Option A_}{n1 c1:Nat}{a2:Option A_}{n2 c2:Nat}{nm bs:List Int}(r:N.eval I=(h0,1,1))(s:Bx w h0 #[kd,(a1,n1,c1),(a2,n2,c2)] 308)(D:aD w a1 n1 nm)(A:bm w a2 n2 bs)(G:n1<=c1)(y:n2<=c2)(f:0<n1->∀p,a1=some p->v.ownBlock≠some p.block/\m<=p.block)(z:0<n2->∀p,a2=some p->v.ownBlock≠some p.block/\m<=p.block)(h:fs.length<=100000)(d:c<=w)(o:∀b u,H_ (cH m u c b (fs++[⟨kd,nm,n2,bs⟩]))->H_ (w.grownBy u v.ownBlock)->F (N.put O.dst b) u):
 if Region.wanted O (yielded P N.tmps)=true then Oper.wp prog O N w F M else E:=by
 have H:Region.wanted O (yielded P N.tmps)=true:=by simp[Region.wanted,J]
 rw[UY H];subst hs;have⟨b,u,C,h1,h2⟩:=uI (T:=O.type) fs e s D A G y f z h d;unfold Oper.wp execOp;simp only[t,resolve,invoke,builtin,T7,Uw,T6,Ul,i7,rx,r,C];exact o _ _ h1 h2
end
section
variable {w:W_}{g B:Nat}
theorem Bx.pair(h:Bx w g #[V,U] T):w.cell? g=V/\w.cell? (g,1)=U:=⟨h.cell 0,h.cell 1⟩
theorem Bx.gT(h:Bx w g #[V,U] T)(c b:V_):Bx ((w.setCell g c).setCell (g,1) b) g #[c,b] T:=(h.set 0 c).set 1 b
def fq(w:W_)(g:Nat)(s0 s1:V_):W_:=(w.setCell ⟨g,0,none⟩ s0).setCell ⟨g,1,none⟩ s1
theorem eK(h:Below B w u)(b:B<=g):Below B w (fq u g V U):=(h.setCell (p:=⟨g,0,none⟩) b _).setCell (p:=⟨g,1,none⟩) b _
theorem kf(h:w.grownBy u (some g)):w.grownBy (fq u g V U) (some g):=ak (ak h _ _) _ _
theorem Bx.aN(h:Bx w g #[U,H,V] T)(c b d:V_):Bx (((w.setCell g c).setCell (g,1) b).setCell (g,2) d) g #[c,b,d] T:=((h.set 0 c).set 1 b).set 2 d
def cP(w:W_)(g:Nat)(s0 s1 s2:V_):W_:=((w.setCell ⟨g,0,none⟩ s0).setCell ⟨g,1,none⟩ s1).setCell ⟨g,2,none⟩ s2
theorem aK(h:Below B w u)(b:B<=g):Below B w (cP u g V U H):=((h.setCell (p:=⟨g,0,none⟩) b _).setCell (p:=⟨g,1,none⟩) b _).setCell (p:=⟨g,2,none⟩) b _
theorem bI(h:w.grownBy u (some g))(c b d:V_):w.grownBy (cP u g c b d) (some g):=ak (ak (ak h _ _) _ _) _ _
end
theorem fN(h:Below u.drew.heap.size u.drew W):OS u W:=(ce _ _).drew.trans h
def FrA(B:Nat)(w:W_)(v:V_)(f:Fr):Prop:=
 ∃(a1:Option A_) (n1 c1:Nat) (a2:Option A_) (c2:Nat),v=.agg #[Zb f.kind,(a1,n1,c1),(a2,f.nb,c2)]/\aD w a1 n1 f.al/\bm w a2 f.nb f.bs/\n1<=c1/\f.nb<=c2/\(0<n1->∀p,a1=some p->B<=p.block)/\(0<f.nb->∀p,a2=some p->B<=p.block)
theorem mL(h:Int)(c1 c2:Nat)(h1:aD u q m L)(h2:bm u p c S)(ak:m<=1000)(aj:c<=1000):
 C_ prog 240 #[.agg #[Zb h,(q,m,c1),(p,c,c2)]] u λi t=>∃v,i=Zv v/\H_ (FrA u t v ⟨h,L,c,S⟩)/\H_ (OS u t):=by
 obtain⟨d,C⟩:∃d:W_,H_ (d=(u.alloc (.cells #[Zb h,(q,m,c1),(p,c,c2)] 308)).alloc (.cells #[Zb 0,Zs,Zs] 308)):=⟨_,rfl⟩;have x:=Y (show Bx d u #[Zb h,(q,m,c1),(p,c,c2)] 308 by rw[C.o];exact(Bx.new u _ _).alloc _);have H:=Y (show Bx d (u+1) #[Zb 0,Zs,Zs] 308 by
  rw[C.o];have ad:=Bx.new (u.alloc (.cells #[Zb h,(q,m,c1),(p,c,c2)] 308)) #[Zb 0,Zs,Zs] 308;rw[dl] at ad;exact ad)
 have F:=Y (show OS u d by rw[C.o];exact(af).alloc (by simp) _);have HI:=Y (h1.later F.o);have U:=Y (h2.later F.o);have G:u.heap.size<d:=x.o.lt;have ag:u.heap.size+1<d:=H.o.lt;have ai:¬u.heap.size+1=u:=by omega
 have ae:m<=1000000:=by omega
 have Z:c<=1000000:=by omega
 clear h1 h2;have⟨Q,b1,W⟩:=x.o.three;go_enter func240,ntmps240;go_wp2;rw[<-C.o];go_region_held3 (λt=>t.cell? ⟨u,0,none⟩=Zb h/\t.cell? ⟨u,1,none⟩=(q,m,c1)/\t.cell? ⟨u,2,none⟩=(p,c,c2))
  (first
    |with_reducible exact⟨Q,b1,W⟩
    |(simp only[an];with_reducible exact⟨Q,b1,W⟩)
    |with_reducible exact⟨N,K,P⟩
    |with_reducible exact⟨e0,V,e2⟩
    |(simp only[aw ai];with_reducible exact⟨N,K,P⟩))
  (first
    |(go_at_call 252;(with_reducible refine(qJ c1 (HI.o.later (ce _ _).drew) ae).mono ?_);rintro i w2 ⟨o,A,rfl,P1,X,I,D⟩;have e:=Y (fN D.o);have⟨e0,V,e2⟩:=(x.o.later e.o G).three)
    |(go_at_call 199;(with_reducible refine(qK c2 (U.o.later (ce _ _).drew) Z).mono ?_);rintro i w2 ⟨j,z,rfl,P2,T,A2,E⟩;have e:=Y (fN E.o);have⟨e0,V,e2⟩:=(x.o.later e.o G).three)
    |(go_at_call 199;(with_reducible refine(qK c2 (U.o.later e.o) Z).mono ?_);rintro i y ⟨j,z,rfl,R,T,ah,E⟩;have s:=Y (show OS d y from e.o.trans (E.o.mono e.o.size));have ab:=Y (P1.o.later E.o);have O:=Y (show ∀b,o=some b->d.heap.size<=b.block from I.o);have M:=Y (show ∀b,j=some b->d.heap.size<=b.block from λb f=>OP e.o.size (ah.o b f));have⟨N,K,P⟩:=(x.o.later s.o G).three;have r:=Y (H.o.later s.o ag);have⟨r0,r1,r2⟩:=r.o.three;have rz:=r.o.frozen)
    |(go_at_call 252;(with_reducible refine(qJ c1 (HI.o.later e.o) ae).mono ?_);rintro i y ⟨o,A,rfl,ab,X,I,D⟩;have s:=Y (show OS d y from e.o.trans (D.o.mono e.o.size));have R:=Y (P2.o.later D.o);have M:=Y (show ∀b,j=some b->d.heap.size<=b.block from A2.o);have O:=Y (show ∀b,o=some b->d.heap.size<=b.block from λb f=>OP e.o.size (I.o b f));have⟨N,K,P⟩:=(x.o.later s.o G).three;have r:=Y (H.o.later s.o ag);have⟨r0,r1,r2⟩:=r.o.three;have rz:=r.o.frozen))
 all_goals
  have GF:=Y (bI (au y (J:=some (u+1))) (Zb h) (o,m,A) (j,c,z));have PF:=Y (ab.o.grownBy GF.o (λ_ b f i=>by have h1:=O.o b f;have h2:u.heap.size+1=b.block:=OG i;omega));have KF:=Y (R.o.grownBy GF.o (λ_ b f i=>by have h1:=M.o b f;have h2:u.heap.size+1=b.block:=OG i;omega));have BF:=Y (show OS u (cP y (u+1) (Zb h) (o,m,A) (j,c,z)) from aK (F.o.trans (s.o.mono F.o.size)) (by omega));go_wp2;have⟨t0,t1,t2⟩:=(r.o.aN (Zb h) (o,m,A) (j,c,z)).three;exact UM (by simp[results,results240,go_sem,t0,t1,t2]) rfl ⟨_,rfl,⟨o,m,A,j,z,rfl,PF.o,KF.o,X.o,T.o,λ_ b f=>by have h1:=O.o b f;omega,λ_ b f=>by have h1:=M.o b f;omega⟩,BF⟩
theorem qA{w:W_}{rest:List Oper}(C:O.guard=none)(Q:O.op=.call {callee:=.builtin .append,args:=#[K,I],argTypes:=#[235,235]})(h:List Fr)(s:cH m w c (N.eval K) h){h0 c1 c2:Nat}(X:N.eval I=(h0,1,1))(J:Bx w h0 #[x,(q,j,c1),(p,i,c2)] 308)(hi:aD w q j L)(U:bm w p i S)(A:j<=c1)(R:i<=c2)(F:0<j->∀b,q=some b->(N.eval K).ownBlock≠some b.block/\m<=b.block)(T:0<i->∀b,p=some b->(N.eval K).ownBlock≠some b.block/\m<=b.block)(hl:h.length<=100000)(D:c<=w)(H:∀f e,cH m e c f (h++[⟨x,L,i,S⟩])->w.grownBy e (N.eval K).ownBlock->wpList prog P M rest (N.put O.dst f) e):
 wpList prog P M (O::rest) N w:=by
 have⟨y,h1,h2⟩:=s;have⟨t,G,u,E,Y⟩:=info_parts Tryz.infoFr;refine wpList_append_own_at _ C K I 235 Q c 308 t _ 3 56 Tryz.underlying235 G u E Y rfl (by decide) (N.eval K) h.length y rfl h1 ⟨h0,0,none⟩ 1 1 [Zb x,(q,j,c1),(p,i,c2)] X rfl (λV ab W=>by
  rw[GT,m9,J.cell V];simpa using W) (by simp[Value.oneCell']) (by rw[aG];omega) (by omega) D ?_
 intro f e Z r _ z;refine H f e (tv h1 h2 (λo ad d=>?_) rfl Z r z) r
 match o,d with
 |0,d=>
  simp at d;subst d;exact⟨q,j,c1,p,c2,rfl,rfl,rfl,hi,U,A,R,F,T⟩
 |o+1,d=>simp at d
theorem fO(qc:Nat)(b:List Fr)(F:FL u q m b)(hn:m<=1000)(W:∀i∈b,i.al.length<=1000/\i.nb<=1000):
 C_ prog 225 #[(q,m,qc)] u λe T=>∃v,e=Zv v/\H_ (cH u T u v b)/\H_ (OS u T):=by
 have HQ:=Y F;have HN:=Y F.1;have af:=Y W;clear F W;go_enter func225,ntmps225;go_wp2_with fail;go_loopw [3,8] (λaj O wr=>∃(j:Nat),j<=m/\O=Zb (j:Int)/\H_ (cH u wr u aj (b.take j))/\H_ (OS u wr)) (λ_ O _=>m-(intOf O).toNat)
 case atStart=>exact⟨0,by omega,rfl,cH.nil _ _ _,ce _ _⟩
 case round=>
  obtain⟨j,hj,rfl,V,K⟩:=hrel;by_cases al:j<m
  ·have⟨ap,aq,i,a1,n1,c1,a2,c2,am,ar,N,e0,e1,e2,d,H,_⟩:=(HQ.later K).at_ j al;subst am;have HX:=Y N;have E:=af _ (OR N);have⟨s,nm,h,bs⟩:=i;dsimp only at e0 e1 e2 d H E;have an:n1<=1000:=by have:=d.1;omega
   have ai:h<=1000:=E.2;have⟨w2,ad⟩:=ZX (wr.alloc (.cells #[s,(a1,n1,c1),(a2,h,c2)] 308));have o:=beA ad;have HI:=Y (d.later o);have HK:=Y (H.later o);have I:=Y (V.later o);have M:=Y (K.t o);have ag:=Y (show(b.take j).length<=100000 by rw[OM];omega);clear N d H E;go_wp2_with fail;rw[<-ad];refine(mL s c1 c2 HI HK an ai).mono ?_;rintro e w3 ⟨v3,rfl,F3,D3⟩;have ao:=F3.o;obtain⟨A,Q,k1,z,k2,rfl,J,D,Z,G,t,r⟩:=ao;dsimp only at J D G t r;have⟨w4,C⟩:=ZX (w3.alloc (.cells #[s,(A,Q,k1),(z,h,k2)] 308));have y:=beA C;have Z4:=bxA C;have I4:=Y (J.later y);have K4:=Y (D.later y);have ak:=Y Z;have ah:=Y G;have ab:=Y (D3.t y);have O4:=Y (I.later ab);have P:=Y (M.t ab);have Q1:H_ (0<Q->∀p,A=some p->u3.ownBlock≠some p.block/\u.heap.size<=p.block):=λh0 p f=>⟨λe=>by have h1:=(I.lt _ e).2;have h2:=t h0 p f;omega,by have h2:=t h0 p f;have h3:=M.size;omega⟩;have Q2:H_ (0<h->∀p,z=some p->u3.ownBlock≠some p.block/\u.heap.size<=p.block):=λh0 p f=>⟨λe=>by have h1:=(I.lt _ e).2;have h2:=r h0 p f;omega,by have h2:=r h0 p f;have h3:=M.size;omega⟩;clear J D Z G t r;go_wp2_with (at_builtin;rw[<-C];refine qA (w:=w4) rfl rfl (m:=u) (c:=u) (b.take j) ?o1 (h0:=w3) (x:=s) (q:=A) (j:=Q) (c1:=k1) (p:=z) (i:=h) (c2:=k2) (L:=nm) (S:=bs) ?o2 ?o3 ?o4 ?o5 ?o6 ?o7 ?o8 ?o9 ?o10 ?o11 ?_);case o1=>exact O4
   case o2=>rfl
   case o3=>exact Z4
   case o4=>exact I4
   case o5=>exact K4
   case o6=>exact ak
   case o7=>exact ah
   case o8=>exact Q1
   case o9=>exact Q2
   case o10=>exact ag
   case o11=>exact P.size
   intro v5 w5 U X;have O5:H_ (cH u w5 u v5 (b.take (j+1))):=(by rw[az _ _ HX];exact U);have B5:=Y (P.grown X P.size (λR d=>(O4.lt R d).1));clear U X;go_wp2_with fail;go_roundw
   case rel=>exact⟨j+1,by omega,by go_num,O5,B5⟩
   case measure=>simp[intOf];omega
  ·obtain rfl:j=m:=by omega
   have OF:=Y (show cH u wr u u3 b by
    have ae:=V.o;rw[OL (by rw[HN];omega)] at ae;exact ae)
   go_wp2_with fail;go_ret;exact⟨_,rfl,OF,K⟩
theorem FL.take{w:W_}{a:Option A_}{k:Nat}{c:List Fr}(h:FL w a k c)(j:Nat)(r:j<=k):FL w a j (c.take j):=by
 have⟨h1,h2,o⟩:=h;refine⟨by rw[OM];omega,by omega,λq=>?_⟩;have⟨e,p,m,d,hc⟩:=o (by omega);refine⟨e,p,m,d,λi f b=>hc i f ?_⟩;rw[Uo] at b;split at b
 ·exact b
 ·cases b
theorem sh(ses base:Int)(d:Option A_)(w:W_)(j:m<=1000)(hc:m<=c):
 C_ prog 218 #[.agg #[ses,base,(d,m,c)]] w λe f=>e=Zv (d,min m 4,c)/\OS w f:=by
 by_cases o:m<=4
 ·have b:min m 4=m:=by omega
  rw[b];have h:(m:Int)<=4:=by omega
  go_enter func218,ntmps218;go_wp2;go_ret;exact⟨rfl,af⟩
 ·have b:min m 4=4:=by omega
  rw[b];have h:¬(m:Int)<=4:=by omega
  have i:(4:Int)<=c:=by omega
  go_enter func218,ntmps218;go_wp2;go_ret;exact⟨rfl,af⟩
def Mx.gp(base want:Int)(qn:Nat):Nat:=if want<=base\/((min qn 4:Nat):Int)<want-base then 0 else(want-base).toNat
theorem ur(F:m≤1000)(hc:m≤c)(h0:0≤y)(h1:y≤2147483647)(h2:0≤z)(P:z≤2147483647):
 C_ Tryz.prog 224 #[.agg #[.int .i64 x,.int .i64 y,.slice q m c],.int .i64 z] u λf b=>f=.returned (.int .i64 (gp y z m:Int))∧OS u b:=by
 obtain⟨j,e⟩:∃j:W_,H_ (j=u.alloc (.cells #[.int .i64 x,.int .i64 y,.slice q m c] 237)):=⟨_,rfl⟩;have p:=bxA e;have r:=beA e;have⟨D,C,t⟩:=p.o.three;by_cases h:z≤y
 ·have G:decide (z≤y)=true:=by simpa using h
  have d:=Y (show gp y z m=0 by unfold gp;rw[UY (.inl h)]);rw[d.o];clear h;go_enter Tryz.func224,Tryz.ntmps224;go_wp2;rw[←e.o];go_quiet (fail);go_wp2;go_ret;exact⟨rfl,below_drewN r.o _⟩
 ·have G:decide (z≤y)=false:=by simpa using h
  obtain⟨M,o⟩:∃M:Nat,H_ (M=min m 4):=⟨_,rfl⟩;have O:IntKind.i64.wrap (z-y)=z-y:=by rw[IntWalk.i64_left,IntWalk.wrap64_in _ (by omega)]
  have K:=Y (show ∀W:W_,C_ Tryz.prog 218 #[.agg #[.int .i64 x,.int .i64 y,.slice q m c]] W λf b=>f=.returned (.slice q M c)∧OS W b from λW=>by rw[o.o];exact sh x y q W F hc);go_enter Tryz.func224,Tryz.ntmps224;go_wp2;rw[←e.o];go_region_held3 (λb=>b.cell? ⟨u.heap.size,0,none⟩=some (.int .i64 x)∧b.cell? ⟨u.heap.size,1,none⟩=some (.int .i64 y)∧b.cell? ⟨u.heap.size,2,none⟩=some (.slice q m c))
   (first
     |with_reducible exact⟨D,C,t⟩
     |(simp only[an];with_reducible exact⟨D,C,t⟩)
     |with_reducible exact⟨E,H,I⟩)
   (first
     |(go_at_call 218;(with_reducible refine(K.o j.drew).mono ?_);rintro f N ⟨rfl,L⟩;have s:=Y (fN L);have⟨E,H,I⟩:=(p.o.later s.o p.o.lt).three))
  all_goals
   have A:=Y (r.o.trans (s.o.mono r.o.size));by_cases i:(M:Int)<z-y
   ·have J:decide ((M:Int)<z-y)=true:=by simpa using i
    have d:=Y (show gp y z m=0 by unfold gp;rw[UY (.inr (by rw[←o.o];exact i))]);go_wp2;go_ret;exact⟨by rw[d.o]<;>rfl,A.o⟩
   ·have J:decide ((M:Int)<z-y)=false:=by simpa using i
    have d:=Y (show((gp y z m:Nat):Int)=z-y by unfold gp;rw[UX (by rw[←o.o];omega)];omega);go_wp2;go_ret;exact⟨by rw[d.o]<;>rfl,A.o⟩
section
variable {l:List Int}{ses:Int}
namespace Mx
def Ack(l:List Int)(ses x:Int):Prop:=aI l 0 [ses,x] 0 []
theorem LG(h:aI l x L m S)(h1:x=0)(h2:m=0)(c:L.length=2)(e:L.getD 0 0=ses):Ack l ses (L.getD 1 0):=by
 obtain⟨b,y,rfl⟩:∃b y,L=[b,y]:=by
  match L,c with
  |[b,y],_=>exact⟨b,y,rfl⟩
 subst h1 h2;obtain rfl:S=[]:=kw (by have:=h.2.1;omega);have d:b=ses:=e;subst d;exact h
theorem Cx(h:Ack l ses x):0<=x/\x<=2147483647:=by
 have h1:=h.1;unfold may at h1;split at h1
 ·omega
 ·split at h1
  ·omega
  ·split at h1
   ·omega
   ·next h2=>
    simp[bH] at h2;omega
end Mx
theorem xm(K:Bytes u q m L)(Q:m<=2000)(M:m<=c):
 C_ prog 223 #[Zb x,(q,m,c)] u λF O=>∃(t:Int) (z:Bool),F=Zr #[Zb t,Zl z]/\H_ ((z=true/\Ack L x t)\/(z=false/\t=0/\∀y,¬Ack L x y))/\H_ (OS u O):=by
 have T:=Y K;go_enter func223,ntmps223;go_wp2_with fail;refine(Cs T Q M).mono ?_;rintro F w1 (⟨E,r,f,bs,a1,c1,a2,c2,rfl,N,C,U,s⟩|⟨rfl,S,s⟩)
 ·have H:=Y N;have G:=Y C;have b:=Y s;have P:f<=maxLen:=U.2.1;rw[aG] at P;have Z:r.length<=maxLen:=C.2.1;rw[aG] at Z;have p:=Y (show ∀y,Ack L x y->E=0/\r=[x,y]/\f=0 from λy d=>by
   have⟨h1,h2,h,_⟩:=aI.one H d;exact⟨h1,h2,h⟩)
  by_cases h1:E=0
  ·by_cases h2:(0:Int)<f
   ·have d2:decide ((0:Int)<f)=true:=by simpa using h2
    have e:H_ (∀y,¬Ack L x y):=(λy d=>by have:=(p y d).2.2;omega);subst h1;go_wp2;exact UM (by simp[results,results223,go_sem]) rfl ⟨0,false,rfl,.inr ⟨rfl,rfl,e⟩,b.alloc b.size _⟩
   ·have d2:decide ((0:Int)<f)=false:=by simpa using h2
    by_cases h:r.length=2
    ·have⟨ae,ag,i,J,ad,A,W⟩:=G.at_ 0 (by omega);have⟨b',af,I,D,_,ab,e1⟩:=G.at_ 1 (by omega);rw[J] at D;cases D
     subst J;rw[wn] at W;have HA:=Y (show i=x->Ack L x I from λV=>by
      have j:=LG (ses:=x) H h1 (by omega) h (A.trans V);rw[ab] at j;exact j)
     have e:=Y (show i≠x->∀y,¬Ack L x y from λX y d=>by
      have j:=(p y d).2.1;rw[j] at A;exact X A.symm)
     have H3:=Y h;subst h1;rw[H3];by_cases o:i=x
     ·have R:(i !=x)=false:=by simpa using o
      go_wp2;exact UM (by simp[results,results223,go_sem]) rfl ⟨I,true,rfl,.inl ⟨rfl,HA o⟩,b.alloc b.size _⟩
     ·have R:(i !=x)=true:=by simpa using o
      go_wp2;exact UM (by simp[results,results223,go_sem]) rfl ⟨0,false,rfl,.inr ⟨rfl,rfl,e o⟩,b.alloc b.size _⟩
    ·have e:H_ (∀y,¬Ack L x y):=(λy d=>h (by rw[(p y d).2.1];rfl));subst h1;go_wp2;exact UM (by simp[results,results223,go_sem]) rfl ⟨0,false,rfl,.inr ⟨rfl,rfl,e⟩,b.alloc b.size _⟩
  ·have e:H_ (∀y,¬Ack L x y):=λy d=>h1 (p y d).1
   go_wp2;exact UM (by simp[results,results223,go_sem]) rfl ⟨0,false,rfl,.inr ⟨rfl,rfl,e⟩,b.alloc b.size _⟩
 ·have e:H_ (∀y,¬Ack L x y):=λy d=>S _ _ _ _ d
  have b:=Y s;go_wp2;exact UM (by simp[results,results223,go_sem]) rfl ⟨0,false,rfl,.inr ⟨rfl,rfl,e⟩,b.alloc b.size _⟩
end
theorem FLA.low{d:List Fr}(h:FLA m u q j d)(e:c<=m):FLA c u q j d:=by
 have⟨h1,h2,K⟩:=h;refine⟨h1,h2,λb=>?_⟩;have⟨s,L,J,M,f,hc⟩:=K b;refine⟨s,L,J,by omega,f,λr E o=>?_⟩;have⟨z,t,c1,i,c2,A,H,y,G,C,D,x,F,I⟩:=hc r E o;exact⟨z,t,c1,i,c2,A,H,y,G,C,D,x,λh p b=>OP e (F h p b),λh p b=>OP e (I h p b)⟩
def SdA(B:Nat)(w:W_)(v:V_)(s:Sd):Prop:=∃(qa:Option A_)(qn qc:Nat),v=.agg #[Zb s.ses,Zb s.base,(qa,qn,qc)]/\FLA B w qa qn s.q/\qn<=qc
theorem SdA.zero(B:Nat)(w:W_):SdA B w (.agg #[Zi,Zi,Zs]) ⟨0,0,[]⟩:=⟨none,0,0,rfl,FLA.nil B w,OJ _⟩
theorem FL.drop{w:W_}{c b k:Nat}{e:List Fr}(p:FL w (some ⟨c,b,none⟩) k e)(j:Nat)(y:j<=k):FL w (some ⟨c,b+j*3,none⟩) (k-j) (e.drop j):=by
 have⟨h1,h2,t⟩:=p;refine⟨by rw[ge,h1],by omega,λu=>?_⟩;have⟨z,x,h,m,hc⟩:=t (by omega);simp only[Option.some.injEq,Addr.mk.injEq,US] at h;obtain⟨rfl,rfl⟩:=h;refine⟨c,b+j*3,rfl,m,λi s d=>?_⟩;rw[Tt] at d;have⟨r,q,c1,o,c2,f⟩:=hc (j+i) s d;rw[show b+(j+i)*3=b+j*3+i*3 by rw[Uv];omega] at f;exact⟨r,q,c1,o,c2,f⟩
namespace Mx
def kl(ses base:Int)(qn:Nat)(l:List Int)(g:Nat):Prop:=(∃x,Ack l ses x/\g=gp base x qn)\/((∀x,¬Ack l ses x)/\g=0)
theorem Hn(h:kl x y m L c)(d:kl x y m L j):c=j:=by
 rcases h with ⟨f,h1,rfl⟩|⟨h1,rfl⟩
 ·rcases d with ⟨e,h2,rfl⟩|⟨h2,rfl⟩
  ·have b:=(aI.one h1 h2).2.1;simp at b;rw[b]
  ·exact absurd h1 (h2 f)
 ·rcases d with ⟨e,h2,rfl⟩|⟨h2,rfl⟩
  ·exact absurd h2 (h1 e)
  ·rfl
theorem J2(base x:Int)(b:Nat):gp base x b<=min b 4:=by
 unfold gp;split
 ·omega
 ·omega
theorem kT{f:Fr}(h:cO f=0):f.al.length<=1000/\f.nb<=1000:=by
 have⟨h1,h2⟩:=zx h;unfold may at h1;split at h1
 ·omega
 ·split at h1
  ·omega
  ·exact⟨by omega,by omega⟩
end Mx
theorem AS(e:List Fr)(hq:FL u q m e)(aI:m<=c)(hl:Bytes u p j L)(aL:j<=2000)(ar:j<=i):
 C_ prog 194 #[.agg #[Zb x,Zb y,(q,m,c)],(p,j,i)] u λV o=>∃v,V=Zr #[v,aJ (bO ⟨x,y,e⟩)]/\H_ ((bO ⟨x,y,e⟩≠0/\SdA u o v ⟨0,0,[]⟩)\/(bO ⟨x,y,e⟩=0/\∃g,kl x y m L g/\SdA u o v ⟨x,y+g,e.drop g⟩))/\H_ (OS u o):=by
 obtain⟨W0,ak⟩:∃W0:W_,H_ (W0=(u.alloc (.cells #[Zb x,Zb y,(q,m,c)] 237)).alloc (.cells #[Zb 0,Zb 0,Zs] 237)):=⟨_,rfl⟩;have X0:=Y (show Bx W0 u #[Zb x,Zb y,(q,m,c)] 237 by rw[ak.o];exact(Bx.new u _ _).alloc _);have R0:=Y (show Bx W0 (u+1) #[Zb 0,Zb 0,Zs] 237 by
  rw[ak.o];have H:=Bx.new (u.alloc (.cells #[Zb x,Zb y,(q,m,c)] 237)) #[Zb 0,Zb 0,Zs] 237;rw[dl] at H;exact H)
 have D0:=Y (show OS u W0 by rw[ak.o];exact(af).alloc (by simp) _);have HQ:=Y (hq.later D0.o);have HL:=Y (hl.later D0.o);have HN:=Y hq.1;clear hq hl;have⟨t,s,r⟩:=X0.o.three;go_enter func194,ntmps194;go_wp2_with fail;rw[<-ak.o];refine(mJ x y c e HQ.o).mono ?_;rintro V w1 ⟨rfl,D1⟩;have X1:=Y (X0.o.later D1 X0.o.lt);have R1:=Y (R0.o.later D1 R0.o.lt);have B1:=Y (D0.o.trans (D1.mono D0.o.size));clear t s r;by_cases hm:bO ⟨x,y,e⟩=0
 ·have HM:=Y hm;have aj:=Y (qo hm);have aR:m<=64:=by have h1:e.length<=64:=aj.o.2.1;have h2:=HN.o;omega
  have aD:0<=y:=aj.o.1.2.2.1;have aB:y<=2147483647:=aj.o.1.2.2.2;have ai:=Y (show ∀G∈e,G.al.length<=1000/\G.nb<=1000 from λG hf=>kT (aj.o.2.2 G hf));have W:=Y (show aJ (bO ⟨x,y,e⟩)=Zn by rw[HM.o,aQ]);rw[W.o];clear hm;have⟨t,s,r⟩:=X1.o.three;have ax:=Y (HL.o.later D1);go_wp2_with fail;refine(xm (x:=x) ax.o aL ar).mono ?_;rintro V w2 ⟨ad,ok,rfl,HA,D2⟩;have X2:=Y (X1.o.later D2.o X1.o.lt);have R2:=Y (R1.o.later D2.o R1.o.lt);have B2:=Y (B1.o.trans (D2.o.mono B1.o.size));clear t s r;cases ok with
  |false=>
   have HG:=Y (show kl x y m L 0 by
    rcases HA.o with ⟨H,_⟩|⟨_,_,H⟩
    ·cases H
    ·exact .inr ⟨H,rfl⟩)
   clear HA;have⟨t,s,r⟩:=X2.o.three;have M:=X2;have Q:=R2;have R:=B2;have Q3:=Y ((HQ.o.later D1).later D2.o);obtain⟨h,az⟩:∃h:W_,H_ (h=w2):=⟨_,rfl⟩;rw[<-az.o] at M Q R Q3 t s r ⊢;have QD:=Q3;have aE:IntKind.i64.wrap y=y:=by rw[IntWalk.i64_left,IntWalk.wrap64_in _ (by omega)]
   have Z:m<=1000:=by omega
   have ah:=ai;have ae:u.heap.size<h:=M.o.lt;have P:u.heap.size+1<h:=Q.o.lt;have ab:¬u.heap.size+1=u:=by omega
   go_upto_region 8 with fail;go_region_held3 (λo=>o.cell? ⟨u,0,none⟩=Zb x/\o.cell? ⟨u,1,none⟩=Zb y/\o.cell? ⟨u,2,none⟩=(q,m,c))
    (first
      |with_reducible exact⟨t,s,r⟩
      |(simp only[an];with_reducible exact⟨t,s,r⟩)
      |with_reducible exact⟨N,O,K⟩
      |(simp only[aw ab];with_reducible exact⟨N,O,K⟩))
    (first
      |(go_at_call 225;refine(fO c e (QD.o.later (ce _ _).drew) Z ah.o).mono ?_;rintro V E ⟨v4,rfl,O4,E4⟩;have A:=Y (fN E4.o);have FA:=Y (O4.o.fla (OJ _));have X:=FA.o;have⟨d,f,I,F,C⟩:=X;obtain⟨b,ag⟩:∃b:Nat,H_ (b=e.length):=⟨_,rfl⟩;rw[<-ag.o] at I F C;subst I;have ZA:=Y (show FLA h E d b e from C);have ZC:=Y F;clear C F;have⟨N,O,K⟩:=(M.o.later A.o ae).three;have D:=Y (Q.o.later A.o P);have⟨r0,r1,r2⟩:=D.o.three;have rz:=D.o.frozen))
   all_goals
    have GF:=Y (bI (au E (J:=some (u+1))) (Zb x) (Zb y) (d,b,f));have ZF:=Y ((ZA.o.grown GF.o P).low (show u.heap.size<=h by omega));have BF:=Y (show OS u (cP E (u+1) (Zb x) (Zb y) (d,b,f)) from aK (R.o.trans (A.o.mono R.o.size)) (by omega));go_wp2_with fail;have⟨T,S,U⟩:=(D.o.aN (Zb x) (Zb y) (d,b,f)).three;exact UM (v:=.tuple #[.agg #[.int .i64 x,.int .i64 y,.slice d b f],.nilIface]) (by simp[results,results194,go_sem,T,S,U]) rfl ⟨_,by rw[W.o],.inr ⟨HM.o,0,HG.o,by rw[show y+((0:Nat):Int)=y by omega,Un];exact⟨d,_,f,rfl,ZF.o,ZC.o⟩⟩,BF⟩
  |true=>
   have aq:=Y (show Ack L x ad by
    rcases HA.o with ⟨_,H⟩|⟨H,_⟩
    ·exact H
    ·cases H)
   have hx:=Cx aq.o;clear HA;have⟨t,s,r⟩:=X2.o.three;go_wp2_with fail;refine(ur (x:=x) (q:=q) (u:=w2) (by omega) aI aD aB hx.1 hx.2).mono ?_;rintro V h ⟨rfl,D3⟩;have M:=Y (X2.o.later D3 X2.o.lt);have Q:=Y (R2.o.later D3 R2.o.lt);have R:=Y (B2.o.trans (D3.mono B2.o.size));have Q3:=Y (((HQ.o.later D1).later D2.o).later D3);clear t s r;have⟨t,s,r⟩:=M.o.three;have am:=Y (J2 y ad m);have ap:=Y (show kl x y m L (gp y ad m) from .inl ⟨ad,aq.o,rfl⟩);obtain⟨g,hg⟩:∃g:Nat,H_ (g=gp y ad m):=⟨_,rfl⟩;rw[<-hg.o] at am ap ⊢;have HG:=ap;have aH:g<=m:=by have:=am.o;omega
   have aO:g<=4:=by have:=am.o;omega
   by_cases aA:g=0
   ·subst aA;have QD:=Q3;have aE:IntKind.i64.wrap y=y:=by rw[IntWalk.i64_left,IntWalk.wrap64_in _ (by omega)]
    have Z:m<=1000:=by omega
    have ah:=ai;have ae:u.heap.size<h:=M.o.lt;have P:u.heap.size+1<h:=Q.o.lt;have ab:¬u.heap.size+1=u:=by omega
    go_upto_region 8 with fail;go_region_held3 (λo=>o.cell? ⟨u,0,none⟩=Zb x/\o.cell? ⟨u,1,none⟩=Zb y/\o.cell? ⟨u,2,none⟩=(q,m,c))
     (first
       |with_reducible exact⟨t,s,r⟩
       |(simp only[an];with_reducible exact⟨t,s,r⟩)
       |with_reducible exact⟨N,O,K⟩
       |(simp only[aw ab];with_reducible exact⟨N,O,K⟩))
     (first
       |(go_at_call 225;refine(fO c e (QD.o.later (ce _ _).drew) Z ah.o).mono ?_;rintro V E ⟨v4,rfl,O4,E4⟩;have A:=Y (fN E4.o);have FA:=Y (O4.o.fla (OJ _));have X:=FA.o;have⟨d,f,I,F,C⟩:=X;obtain⟨b,ag⟩:∃b:Nat,H_ (b=e.length):=⟨_,rfl⟩;rw[<-ag.o] at I F C;subst I;have ZA:=Y (show FLA h E d b e from C);have ZC:=Y F;clear C F;have⟨N,O,K⟩:=(M.o.later A.o ae).three;have D:=Y (Q.o.later A.o P);have⟨r0,r1,r2⟩:=D.o.three;have rz:=D.o.frozen))
    all_goals
     have GF:=Y (bI (au E (J:=some (u+1))) (Zb x) (Zb y) (d,b,f));have ZF:=Y ((ZA.o.grown GF.o P).low (show u.heap.size<=h by omega));have BF:=Y (show OS u (cP E (u+1) (Zb x) (Zb y) (d,b,f)) from aK (R.o.trans (A.o.mono R.o.size)) (by omega));go_wp2_with fail;have⟨T,S,U⟩:=(D.o.aN (Zb x) (Zb y) (d,b,f)).three;exact UM (v:=.tuple #[.agg #[.int .i64 x,.int .i64 y,.slice d b f],.nilIface]) (by simp[results,results194,go_sem,T,S,U]) rfl ⟨_,by rw[W.o],.inr ⟨HM.o,0,HG.o,by rw[show y+((0:Nat):Int)=y by omega,Un];exact⟨d,_,f,rfl,ZF.o,ZC.o⟩⟩,BF⟩
   ·have⟨al,ao,aF,_⟩:=Q3.o.2.2 (by omega);subst aF;have aM:IntKind.i64.wrap (y+(g:Int))=y+(g:Int):=by rw[IntWalk.i64_left,IntWalk.wrap64_in _ (by omega)]
    have aS:(g:Int)<=m:=by omega
    have aN:(g:Int)<=c:=by omega
    have aP:(0:Int)<=(g:Int):=by omega
    by_cases av:c=g
    ·have aC:m=g:=by omega
     have ay:=Y (show e.drop g=[] from Pi (by rw[HN.o];omega));have QD:=Y (show FL h (some ⟨al,ao,none⟩) 0 (e.drop g) by rw[ay.o];exact⟨rfl,by rw[aG];omega,λH=>absurd H (by omega)⟩);have Z:0<=1000:=by omega
     have ah:=Y (show ∀G∈e.drop g,G.al.length<=1000/\G.nb<=1000 from λG hf=>ai.o G (In hf));subst av;subst aC;have ae:u.heap.size<h:=M.o.lt;have P:u.heap.size+1<h:=Q.o.lt;have ab:¬u.heap.size+1=u:=by omega
     go_upto_region 8 with fail;go_region_held3 (λo=>o.cell? ⟨u,0,none⟩=Zb x/\o.cell? ⟨u,1,none⟩=Zb y/\o.cell? ⟨u,2,none⟩=(al,ao,m,m))
      (first
        |with_reducible exact⟨t,s,r⟩
        |(simp only[an];with_reducible exact⟨t,s,r⟩)
        |with_reducible exact⟨N,O,K⟩
        |(simp only[aw ab];with_reducible exact⟨N,O,K⟩))
      (first
        |(go_at_call 225;refine(fO 0 (e.drop m) (QD.o.later (ce _ _).drew) Z ah.o).mono ?_;rintro V E ⟨v4,rfl,O4,E4⟩;have A:=Y (fN E4.o);have FA:=Y (O4.o.fla (OJ _));have X:=FA.o;have⟨d,f,I,F,C⟩:=X;obtain⟨b,ag⟩:∃b:Nat,H_ (b=(e.drop m).length):=⟨_,rfl⟩;rw[<-ag.o] at I F C;subst I;have ZA:=Y (show FLA h E d b (e.drop m) from C);have ZC:=Y F;clear C F;have⟨N,O,K⟩:=(M.o.later A.o ae).three;have D:=Y (Q.o.later A.o P);have⟨r0,r1,r2⟩:=D.o.three;have rz:=D.o.frozen))
     all_goals
      have GF:=Y (bI (au E (J:=some (u+1))) (Zb x) (Zb (y+(m:Int))) (d,b,f));have ZF:=Y ((ZA.o.grown GF.o P).low (show u.heap.size<=h by omega));have BF:=Y (show OS u (cP E (u+1) (Zb x) (Zb (y+(m:Int))) (d,b,f)) from aK (R.o.trans (A.o.mono R.o.size)) (by omega));go_wp2_with fail;have⟨T,S,U⟩:=(D.o.aN (Zb x) (Zb (y+(m:Int))) (d,b,f)).three;exact UM (v:=.tuple #[.agg #[.int .i64 x,.int .i64 (y+(m:Int)),.slice d b f],.nilIface]) (by simp[results,results194,go_sem,T,S,U]) rfl ⟨_,by rw[W.o],.inr ⟨HM.o,m,HG.o,⟨d,_,f,rfl,ZF.o,ZC.o⟩⟩,BF⟩
    ·have QD:=Y (Q3.o.drop g aH);have Z:m-g<=1000:=by omega
     have ah:=Y (show ∀G∈e.drop g,G.al.length<=1000/\G.nb<=1000 from λG hf=>ai.o G (In hf));have ae:u.heap.size<h:=M.o.lt;have P:u.heap.size+1<h:=Q.o.lt;have ab:¬u.heap.size+1=u:=by omega
     go_upto_region 8 with fail;go_region_held3 (λo=>o.cell? ⟨u,0,none⟩=Zb x/\o.cell? ⟨u,1,none⟩=Zb y/\o.cell? ⟨u,2,none⟩=(al,ao,m,c))
      (first
        |with_reducible exact⟨t,s,r⟩
        |(simp only[an];with_reducible exact⟨t,s,r⟩)
        |with_reducible exact⟨N,O,K⟩
        |(simp only[aw ab];with_reducible exact⟨N,O,K⟩))
      (first
        |(go_at_call 225;refine(fO (c-g) (e.drop g) (QD.o.later (ce _ _).drew) Z ah.o).mono ?_;rintro V E ⟨v4,rfl,O4,E4⟩;have A:=Y (fN E4.o);have FA:=Y (O4.o.fla (OJ _));have X:=FA.o;have⟨d,f,I,F,C⟩:=X;obtain⟨b,ag⟩:∃b:Nat,H_ (b=(e.drop g).length):=⟨_,rfl⟩;rw[<-ag.o] at I F C;subst I;have ZA:=Y (show FLA h E d b (e.drop g) from C);have ZC:=Y F;clear C F;have⟨N,O,K⟩:=(M.o.later A.o ae).three;have D:=Y (Q.o.later A.o P);have⟨r0,r1,r2⟩:=D.o.three;have rz:=D.o.frozen))
     all_goals
      have GF:=Y (bI (au E (J:=some (u+1))) (Zb x) (Zb (y+(g:Int))) (d,b,f));have ZF:=Y ((ZA.o.grown GF.o P).low (show u.heap.size<=h by omega));have BF:=Y (show OS u (cP E (u+1) (Zb x) (Zb (y+(g:Int))) (d,b,f)) from aK (R.o.trans (A.o.mono R.o.size)) (by omega));go_wp2_with fail;have⟨T,S,U⟩:=(D.o.aN (Zb x) (Zb (y+(g:Int))) (d,b,f)).three;exact UM (v:=.tuple #[.agg #[.int .i64 x,.int .i64 (y+(g:Int)),.slice d b f],.nilIface]) (by simp[results,results194,go_sem,T,S,U]) rfl ⟨_,by rw[W.o],.inr ⟨HM.o,g,HG.o,⟨d,_,f,rfl,ZF.o,ZC.o⟩⟩,BF⟩
 ·have HM:=Y hm;have W:=Y (bJ hm);rw[W.o];clear hm;have⟨r0,r1,r2⟩:=R1.o.three;have rz:=R1.o.frozen;go_wp2_with fail;have⟨T,S,U⟩:=(R1.o.aN (Zb 0) (Zb 0) Zs).three;exact UM (v:=.tuple #[.agg #[.int .i64 0,.int .i64 0,.slice none 0 0],.iface 70 (.int .i64 (bO ⟨x,y,e⟩))]) (by simp[results,results194,go_sem,T,S,U]) rfl ⟨_,by rw[W.o],.inl ⟨HM.o,SdA.zero _ _⟩,aK B1.o (by omega)⟩
theorem cH.low{d:List Fr}(r:cH m u j V d)(e:c<=m):cH c u j V d:=by
 have⟨A,h1,h2⟩:=r;refine⟨A,h1,λq E o=>?_⟩;have⟨y,s,c1,i,c2,z,G,x,F,C,D,t,f,h⟩:=h2 q E o;exact⟨y,s,c1,i,c2,z,G,x,F,C,D,t,λh0 p b=>⟨(f h0 p b).1,OP e (f h0 p b).2⟩,λh0 p b=>⟨(h h0 p b).1,OP e (h h0 p b).2⟩⟩
theorem cH.mono{B:Nat}{w:W_}{base c:Nat}{v:V_}{b:List Fr}(h:cH B w base v b)(e:c<=base):cH B w c v b:=by
 have⟨d,h1,h2⟩:=h;exact⟨d,World.ownsRow.mono h1 e,h2⟩
namespace Mx
def iA (s:Sd) (f:Fr):Int:=if bO s=0 then (if cO f=0 then (if s.q.length=64∨2147483647≤s.base+s.q.length then 2 else 0) else cO f) else bO s
theorem MJ{s:Sd}{f:Fr}(h:bO s≠0):iA s f=bO s:=by unfold iA;rw[UX h]
theorem MI{s:Sd}{f:Fr}(h:bO s=0)(h2:cO f≠0):iA s f=cO f:=by unfold iA;rw[UY h,UX h2]
theorem Ew{s:Sd}{f:Fr}(h:bO s=0)(h2:cO f=0)(b:s.q.length=64\/2147483647<=s.base+s.q.length):iA s f=2:=by unfold iA;rw[UY h,UY h2,UY b]
theorem Ev{s:Sd}{f:Fr}(h:bO s=0)(h2:cO f=0)(b:¬(s.q.length=64\/2147483647<=s.base+s.q.length)):iA s f=0:=by unfold iA;rw[UY h,UY h2,UX b]
end Mx
theorem AV(f:Nat)(h:List Fr){c1 c2:Nat}(hq:FL u q f h)(hi:aD u p c L)(hk:bm u e j S):
 C_ prog 216 #[.agg #[Zb x,Zb y,(q,f,m)],.agg #[Zb z,(p,c,c1),(e,j,c2)]] u λo w'=>∃v,o=Zr #[v,aJ (iA ⟨x,y,h⟩ ⟨z,L,j,S⟩)]/\H_ ((iA ⟨x,y,h⟩ ⟨z,L,j,S⟩≠0/\SdA u w' v ⟨0,0,[]⟩)\/(iA ⟨x,y,h⟩ ⟨z,L,j,S⟩=0/\SdA u w' v ⟨x,y,h++[⟨z,L,j,S⟩]⟩))/\H_ (OS u w'):=by
 obtain⟨W0,ai⟩:∃W0:W_,H_ (W0=((u.alloc (.cells #[Zb x,Zb y,(q,f,m)] 237)).alloc (.cells #[Zb z,(p,c,c1),(e,j,c2)] 308)).alloc (.cells #[Zb 0,Zb 0,Zs] 237)):=⟨_,rfl⟩;have X0:=Y (show Bx W0 u #[Zb x,Zb y,(q,f,m)] 237 by rw[ai.o];exact((Bx.new u _ _).alloc _).alloc _);have Y0:=Y (show Bx W0 (u+1) #[Zb z,(p,c,c1),(e,j,c2)] 308 by
  rw[ai.o];have ah:=(Bx.new (u.alloc (.cells #[Zb x,Zb y,(q,f,m)] 237)) #[Zb z,(p,c,c1),(e,j,c2)] 308).alloc (.cells #[Zb 0,Zb 0,Zs] 237);rw[dl] at ah;exact ah)
 have R0:=Y (show Bx W0 (u+2) #[Zb 0,Zb 0,Zs] 237 by
  rw[ai.o];have ah:=Bx.new ((u.alloc (.cells #[Zb x,Zb y,(q,f,m)] 237)).alloc (.cells #[Zb z,(p,c,c1),(e,j,c2)] 308)) #[Zb 0,Zb 0,Zs] 237;rw[dl,dl] at ah;exact ah)
 have D0:=Y (show OS u W0 by rw[ai.o];exact((af).alloc (by simp) _).alloc (by simp;omega) _);have HQ:=Y (hq.later D0.o);have HI:=Y (hi.later D0.o);have HK:=Y (hk.later D0.o);have HN:=Y hq.1;have aS:=Y hi.1;clear hq hi hk;have⟨x0,x1,x2⟩:=X0.o.three;go_enter func216,ntmps216;go_wp2_with fail;rw[<-ai.o];refine(mJ x y m h HQ.o).mono ?_;rintro o w1 ⟨rfl,D1⟩;have X1:=Y (X0.o.later D1 X0.o.lt);have Y1:=Y (Y0.o.later D1 Y0.o.lt);have R1:=Y (R0.o.later D1 R0.o.lt);have B1:=Y (D0.o.trans (D1.mono D0.o.size));clear x0 x1 x2;by_cases hm:bO ⟨x,y,h⟩=0
 ·have HM:=Y hm;have ak:=Y (qo hm);have aV:f<=64:=by have h1:h.length<=64:=ak.o.2.1;have h2:=HN.o;omega
  have aW:0<=y:=ak.o.1.2.2.1;have a0:y<=2147483647:=ak.o.1.2.2.2;have ap:=Y (show ∀X∈h,X.al.length<=1000/\X.nb<=1000 from λX O=>kT (ak.o.2.2 X O));rw[hm,aQ];clear hm;have⟨y0,y1,y2⟩:=Y1.o.three;have aG:=Y (HI.o.later D1);have aH:=Y (HK.o.later D1);go_wp2_with fail;refine(eb z e c1 c2 S aG.o aH.o.2.1).mono ?_;rintro o w2 ⟨rfl,D2⟩;have X2:=Y (X1.o.later D2 X1.o.lt);have Y2:=Y (Y1.o.later D2 Y1.o.lt);have F:=Y (R1.o.later D2 R1.o.lt);have B2:=Y (B1.o.trans (D2.mono B1.o.size));clear y0 y1 y2;by_cases O:cO ⟨z,L,j,S⟩=0
  ·have HF:=Y O;have aC:=Y (kT O);rw[O,aQ];clear O;have⟨x0,x1,x2⟩:=X2.o.three;have aX:IntKind.i64.wrap (2147483647-(f:Int))=2147483647-(f:Int):=by rw[IntWalk.i64_left,IntWalk.wrap64_in _ (by omega)]
   by_cases ag:f=64
   ·have A:=Y (Ew (s:=⟨x,y,h⟩) (f:=⟨z,L,j,S⟩) HM.o HF.o (.inl (by rw[HN.o];exact ag)));have aU:((f:Int)==64)=true:=by simpa using (show(f:Int)=64 by omega)
    have aN:(f==64)=true:=by simpa using ag
    clear ag;have⟨r0,r1,r2⟩:=F.o.three;have rz:=F.o.frozen;go_wp2_with fail;have⟨Z,V,t2⟩:=(F.o.aN (Zb 0) (Zb 0) Zs).three;exact UM (v:=.tuple #[.agg #[.int .i64 0,.int .i64 0,.slice none 0 0],.iface 70 (.int .i64 2)]) (by simp[results,results216,go_sem,Z,V,t2]) rfl ⟨_,by rw[A.o]<;>rfl,.inl ⟨by rw[A.o];decide,SdA.zero _ _⟩,aK B2.o (by omega)⟩
   ·have aU:((f:Int)==64)=false:=by simpa using (show ¬(f:Int)=64 by omega)
    have aN:(f==64)=false:=by simpa using ag
    by_cases al:2147483647-(f:Int)<=y
    ·have A:=Y (Ew (s:=⟨x,y,h⟩) (f:=⟨z,L,j,S⟩) HM.o HF.o (.inr (by show 2147483647<=y+(h.length:Int);rw[HN.o];omega)));have aP:decide (2147483647-(f:Int)<=y)=true:=by simpa using al
     clear al;have⟨r0,r1,r2⟩:=F.o.three;have rz:=F.o.frozen;go_wp2_with fail;have⟨Z,V,t2⟩:=(F.o.aN (Zb 0) (Zb 0) Zs).three;exact UM (v:=.tuple #[.agg #[.int .i64 0,.int .i64 0,.slice none 0 0],.iface 70 (.int .i64 2)]) (by simp[results,results216,go_sem,Z,V,t2]) rfl ⟨_,by rw[A.o]<;>rfl,.inl ⟨by rw[A.o];decide,SdA.zero _ _⟩,aK B2.o (by omega)⟩
    ·have A:=Y (Ev (s:=⟨x,y,h⟩) (f:=⟨z,L,j,S⟩) HM.o HF.o (by show ¬(h.length=64\/2147483647<=y+(h.length:Int));rw[HN.o];omega));have aP:decide (2147483647-(f:Int)<=y)=false:=by simpa using al
     have aM:c<=1000:=by have h1:L.length<=1000:=aC.o.1;have h2:=aS.o;omega
     have aA:j<=1000:=aC.o.2;clear al ag;obtain⟨d,aj⟩:∃d:W_,H_ (d=w2):=⟨_,rfl⟩;rw[<-aj.o] at X2 Y2 F B2 x0 x1 x2 ⊢;have R:=X2;have T:=Y2;have R3:=F;have B3:=B2;have Q3:=Y (show FL d q f h by rw[aj.o];exact(HQ.o.later D1).later D2);have I3:=Y (show aD d p c L by rw[aj.o];exact aG.o.later D2);have K3:=Y (show bm d e j S by rw[aj.o];exact aH.o.later D2);have G:u.heap.size<d:=R.o.lt;have Q:u.heap.size+1<d:=T.o.lt;have aE:u.heap.size+2<d:=R3.o.lt;have av:f<=1000:=by omega
     have aI:h.length<=100000:=by have:=HN.o;omega
     clear x0 x1 x2;have⟨x0,x1,x2⟩:=R.o.three;have⟨y0,y1,y2⟩:=T.o.three;go_upto_region 10 with fail;go_region_held3 (λw'=>w'.cell? ⟨u,2,none⟩=(q,f,m)/\w'.cell? ⟨u+1,0,none⟩=Zb z/\w'.cell? ⟨u+1,1,none⟩=(p,c,c1)/\w'.cell? ⟨u+1,2,none⟩=(e,j,c2))
      (first
        |with_reducible exact⟨x2,y0,y1,y2⟩
        |(simp only[an];with_reducible exact⟨x2,y0,y1,y2⟩)
        |with_reducible exact⟨s2,p0,p1,p2⟩
        |(simp only[aq aT,aq aR];with_reducible exact⟨s2,p0,p1,p2⟩)
        |with_reducible exact⟨u2,v0,v1,v2⟩
        |(simp only[aq aB,aq aL];with_reducible exact⟨u2,v0,v1,v2⟩)
        |with_reducible exact⟨i2,j0,j1,j2⟩)
      (first
        |(go_at_call 225;(with_reducible refine(fO m h (Q3.o.later (ce _ _).drew) av ap.o).mono ?_);rintro o C ⟨P,rfl,H,E4⟩;have i:=Y (fN E4.o);have⟨s0,s1,s2⟩:=(R.o.later i.o G).three;have⟨p0,p1,p2⟩:=(T.o.later i.o Q).three)
        |(go_at_call 240;(with_reducible refine(mL z c1 c2 (I3.o.later (ce _ _).drew) (K3.o.later (ce _ _).drew) aM aA).mono ?_);rintro o C ⟨vf,rfl,FV,E4⟩;have i:=Y (fN E4.o);have aw:=FV.o;obtain⟨M,N,k1,E,k2,rfl,g1,g2,g3,g4,g5,g6⟩:=aw;dsimp only at g1 g2 g4 g5 g6;have G1:=Y g1;have W:=Y g2;have G3:=Y g3;have G4:=Y g4;have G5:=Y g5;have G6:=Y g6;clear g1 g2 g3 g4 g5 g6;have⟨s0,s1,s2⟩:=(R.o.later i.o G).three;have⟨p0,p1,p2⟩:=(T.o.later i.o Q).three;have aT:u.heap.size<C:=OE G i.o.size;have aR:u.heap.size+1<C:=OE Q i.o.size)
        |(go_at_call 240;(with_reducible refine(mL z c1 c2 (I3.o.later i.o) (K3.o.later i.o) aM aA).mono ?_);rintro o D ⟨vf,rfl,FV,U⟩;have r:=Y (show OS d D from i.o.trans (U.o.mono i.o.size));have aw:=FV.o;obtain⟨M,N,k1,E,k2,rfl,g1,g2,g3,g4,g5,g6⟩:=aw;dsimp only at g1 g2 g4 g5 g6;have G1:=Y g1;have W:=Y g2;have G3:=Y g3;have G4:=Y g4;have G5:=Y g5;have G6:=Y g6;clear g1 g2 g3 g4 g5 g6;have ab:=Y ((H.o.later U.o).low (show d<=d.drew.heap.size from OJ _));replace ab:=Y (ab.o.mono (show d<=d.drew.heap.size from OJ _));have am:=Y (show 0<N->∀b,M=some b->P.ownBlock≠some b.block/\d.heap.size<=b.block from λh0 b t=>⟨λo=>by have h1:=(H.o.lt _ o).2;have h2:=G5.o h0 b t;omega,by have h2:=G5.o h0 b t;have h3:=i.o.size;omega⟩);have ao:=Y (show 0<j->∀b,E=some b->P.ownBlock≠some b.block/\d.heap.size<=b.block from λh0 b t=>⟨λo=>by have h1:=(H.o.lt _ o).2;have h2:=G6.o h0 b t;omega,by have h2:=G6.o h0 b t;have h3:=i.o.size;omega⟩);have⟨u0,u1,u2⟩:=(R.o.later r.o G).three;have⟨v0,v1,v2⟩:=(T.o.later r.o Q).three;have aB:u.heap.size<D:=OE G r.o.size;have aL:u.heap.size+1<D:=OE Q r.o.size)
        |(go_at_call 225;(with_reducible refine(fO m h (Q3.o.later i.o) av ap.o).mono ?_);rintro o D ⟨P,rfl,H,U⟩;have r:=Y (show OS d D from i.o.trans (U.o.mono i.o.size));have ab:=Y ((H.o.low (show d.heap.size<=C from i.o.size)).mono (show d.heap.size<=C from i.o.size));have am:=Y (show 0<N->∀b,M=some b->P.ownBlock≠some b.block/\d.heap.size<=b.block from λh0 b t=>⟨λo=>by have h1:=(H.o.lt _ o).1;have h2:=G1.o.row.off h0 b t;omega,G5.o h0 b t⟩);have ao:=Y (show 0<j->∀b,E=some b->P.ownBlock≠some b.block/\d.heap.size<=b.block from λh0 b t=>⟨λo=>by have h1:=(H.o.lt _ o).1;have h2:=W.o.row.off h0 b t;omega,G6.o h0 b t⟩);replace G1:=Y (G1.o.later U.o);replace W:=Y (W.o.later U.o);have⟨u0,u1,u2⟩:=(R.o.later r.o G).three;have⟨v0,v1,v2⟩:=(T.o.later r.o Q).three;have aB:u.heap.size<D:=OE G r.o.size;have aL:u.heap.size+1<D:=OE Q r.o.size)
        |(go_at_call 225;(with_reducible refine(fO m h (Q3.o.later (i.o.alloc i.o.size _)) av ap.o).mono ?_);rintro o D ⟨P,rfl,H,U⟩;have az:=Y (show OS C D from(af (v:=C)).trans (U.o.mono (by simp)));have r:=Y (show OS d D from i.o.trans (az.o.mono i.o.size));have aO:=Y ((Bx.new C #[Zb z,(M,N,k1),(E,j,k2)] 308).later U.o (by simp));have aZ:C+1=(C.alloc (.cells #[Zb z,(M,N,k1),(E,j,k2)] 308)).heap.size:=by simp;have ab:=Y ((H.o.low (show d<=(C.alloc (.cells #[Zb z,(M,N,k1),(E,j,k2)] 308)).heap.size by have:=i.o.size;omega)).mono (show d<=(C.alloc (.cells #[Zb z,(M,N,k1),(E,j,k2)] 308)).heap.size by have:=i.o.size;omega));have am:=Y (show 0<N->∀b,M=some b->P.ownBlock≠some b.block/\d.heap.size<=b.block from λh0 b t=>⟨λo=>by have h1:=(H.o.lt _ o).1;have h2:=G1.o.row.off h0 b t;omega,G5.o h0 b t⟩);have ao:=Y (show 0<j->∀b,E=some b->P.ownBlock≠some b.block/\d.heap.size<=b.block from λh0 b t=>⟨λo=>by have h1:=(H.o.lt _ o).1;have h2:=W.o.row.off h0 b t;omega,G6.o h0 b t⟩);replace G1:=Y (G1.o.later az.o);replace W:=Y (W.o.later az.o);have⟨u0,u1,u2⟩:=(R.o.later r.o G).three;have⟨v0,v1,v2⟩:=(T.o.later r.o Q).three)
        |(refine l8 (w:=D.alloc (.cells #[Zb z,(M,N,k1),(E,j,k2)] 308)) rfl (K:=.tmp 38) (I:=.tmp 41) rfl (c:=d) (v:=P) (fs:=h) rfl ?o1 (kd:=z) (a1:=M) (n1:=N) (c1:=k1) (a2:=E) (n2:=j) (c2:=k2) (nm:=L) (bs:=S) rfl (Bx.new _ _ _) ?o2 ?o3 G3.o G4.o am.o ao.o aI ?o4 ?_;(case o1=>exact ab.o.later (af));(case o2=>exact G1.o.later (af));(case o3=>exact W.o.later (af));(case o4=>exact OP r.o.size (by simp));intro v6 w6 O6 ax;have FB:=O6.o.fla (OJ _);have⟨za,zc,hv,ad,ae⟩:=FB;rw[OC,pu,HN.o] at hv ad ae;subst hv;have ZA:=Y ae;have aF:=Y ad;clear ae ad;have D6:=Y (show OS d w6 from(r.o.alloc r.o.size _).grown ax.o (OP r.o.size (by simp)) (λar hi=>(ab.o.lt ar hi).1));have⟨i0,i1,i2⟩:=(R.o.later D6.o G).three;have⟨j0,j1,j2⟩:=(T.o.later D6.o Q).three)
        |(refine l8 (w:=D) rfl (K:=.tmp 38) (I:=.tmp 41) rfl (v:=P) (fs:=h) rfl ab.o (kd:=z) (a1:=M) (n1:=N) (c1:=k1) (a2:=E) (n2:=j) (c2:=k2) (nm:=L) (bs:=S) rfl aO.o G1.o W.o G3.o G4.o am.o ao.o aI r.o.size ?_;intro v6 w6 O6 ax;have FB:=O6.o.fla (OJ _);have⟨za,zc,hv,ad,ae⟩:=FB;rw[OC,pu,HN.o] at hv ad ae;subst hv;have ZA:=Y ae;have aF:=Y ad;clear ae ad;have D6:=Y (show OS d w6 from r.o.grown ax.o r.o.size (λar hi=>(ab.o.lt ar hi).1));have⟨i0,i1,i2⟩:=(R.o.later D6.o G).three;have⟨j0,j1,j2⟩:=(T.o.later D6.o Q).three))
     all_goals
      have X6:=Y (R.o.later D6.o G);have R6:=Y (R3.o.later D6.o aE);have B6:=Y (B3.o.trans (D6.o.mono B3.o.size));have⟨z0,z1,z2⟩:=X6.o.three;have⟨r0,r1,r2⟩:=R6.o.three;have rz:=R6.o.frozen;have GF:=Y (bI (au w6 (J:=some (u+2))) (Zb x) (Zb y) (za,f+1,zc));have ZF:=Y ((ZA.o.grown GF.o aE).low (show u.heap.size<=_ by omega));have BF:=Y (show OS u (cP w6 (u+2) (Zb x) (Zb y) (za,f+1,zc)) from aK B6.o (by omega));go_wp2_with fail;have⟨Z,V,t2⟩:=(R6.o.aN (Zb x) (Zb y) (za,f+1,zc)).three;exact UM (v:=.tuple #[.agg #[.int .i64 x,.int .i64 y,.slice za (f+1) zc],.nilIface]) (by simp[results,results216,go_sem,Z,V,t2]) rfl ⟨_,by rw[A.o,aQ],.inr ⟨A.o,⟨za,f+1,zc,rfl,ZF.o,aF.o⟩⟩,BF⟩
  ·have A:=Y (MI (s:=⟨x,y,h⟩) (f:=⟨z,L,j,S⟩) HM.o O);have HE:=Y (bJ O);have ay:=Y O;rw[HE.o];clear O;have⟨r0,r1,r2⟩:=F.o.three;have rz:=F.o.frozen;go_wp2_with fail;have⟨Z,V,t2⟩:=(F.o.aN (Zb 0) (Zb 0) Zs).three;exact UM (v:=.tuple #[.agg #[.int .i64 0,.int .i64 0,.slice none 0 0],.iface 70 (.int .i64 (cO ⟨z,L,j,S⟩))]) (by simp[results,results216,go_sem,Z,V,t2]) rfl ⟨_,by rw[A.o];rw[HE.o],.inl ⟨by rw[A.o];exact ay.o,SdA.zero _ _⟩,aK B2.o (by omega)⟩
 ·have A:=Y (MJ (f:=⟨z,L,j,S⟩) hm);have HE:=Y (bJ hm);have ay:=Y hm;rw[HE.o];clear hm;have⟨r0,r1,r2⟩:=R1.o.three;have rz:=R1.o.frozen;go_wp2_with fail;have⟨Z,V,t2⟩:=(R1.o.aN (Zb 0) (Zb 0) Zs).three;exact UM (v:=.tuple #[.agg #[.int .i64 0,.int .i64 0,.slice none 0 0],.iface 70 (.int .i64 (bO ⟨x,y,h⟩))]) (by simp[results,results216,go_sem,Z,V,t2]) rfl ⟨_,by rw[A.o];rw[HE.o],.inl ⟨by rw[A.o];exact ay.o,SdA.zero _ _⟩,aK B1.o (by omega)⟩
section
variable {n k:Int}
theorem Bx.four{w:W_}{b:V_}(h:Bx w m #[V,U,H,b] T):w.cell? m=V/\w.cell? (m,1)=U/\w.cell? (m,2)=H/\w.cell? (m,3)=b:=⟨h.cell 0,h.cell 1,h.cell 2,h.cell 3⟩
namespace Mx
theorem qF{b:Bu}(h:n<1\/32<n\/b.num<0\/2147483647<b.num):aY b n=1:=by rw[aY,UY h]
theorem LO{b:Bu}(h:¬(n<1\/32<n\/b.num<0\/2147483647<b.num))(h2:4<b.se.length):aY b n=2:=by rw[aY,UX h,UY h2]
theorem vo{b:Bu}(h:¬(n<1\/32<n\/b.num<0\/2147483647<b.num))(h2:¬4<b.se.length)(c:gy b n=false):aY b n=3:=by rw[aY,UX h,UX h2,c];rfl
theorem CK(h:¬(n<1\/32<n\/Q.num<0\/2147483647<Q.num))(h2:¬4<Q.se.length)(b:gy Q n=true):aY Q n=0:=by rw[aY,UX h,UX h2,b];rfl
theorem cb(h:aY Q n=0):(1<=n/\n<=32/\0<=Q.num/\Q.num<=2147483647)/\Q.se.length<=4/\gy Q n=true:=by
 unfold aY at h;split at h
 ·omega
 ·split at h
  ·omega
  ·split at h
   ·next h1 h2 b=>exact⟨by omega,by omega,b⟩
   ·omega
def dR(b:Bu)(n k:Int):Int:=if aY b n=0 then(if k<0\/b.num<k then 1 else 0) else aY b n
theorem Ei{b:Bu}(h:aY b n=0)(c:k<0\/b.num<k):dR b n k=1:=by rw[dR,UY h,UY c]
theorem rF{b:Bu}(h:aY b n=0)(c:¬(k<0\/b.num<k)):dR b n k=0:=by rw[dR,UY h,UX c]
theorem Ir(h:aY Q n≠0):dR Q n k=aY Q n:=by rw[dR,UX h]
theorem cJ(h:gy Q n=true):(Q.be=true->Q.se=[])/\bK n Q.op=true/\fm Q.se Q.num n=true:=by
 unfold gy at h;simp only[LT,Bool.not_eq_true',Ua] at h;refine⟨λb=>?_,h.1.2,h.2⟩;rcases h.1.1 with h1|h1
 ·rw[b] at h1
  cases h1
 ·simpa using h1
end Mx
theorem Ay(h:EL u q m Z)(K:j<=1000)(h0:0<=x)(h1:x<=2147483647):
 C_ prog 209 #[(q,m,c),x,j] u λf N=>f=Zv (Zl (fm Z x j))/\OS u N:=by
 have U:m<=maxLen:=h.2.1;unfold maxLen at U;have P:=Y h;have e:=Y h.1;clear h;by_cases S:(m:Int)<=x
 ·have hd:decide (x-(m:Int)<0)=false:=by simp;omega
  go_enter func209,ntmps209;go_wp2_with fail;go_loopw [18] (λt wr=>∃b:Nat,b<=m/\t=Zb (b:Int)/\H_ (uQ Z x j b)/\H_ (OS u wr)) (λt _=>m-(intOf t).toNat)
  case atStart=>exact⟨0,by omega,rfl,λA I=>absurd I (by omega),ce _ _⟩
  case round=>
   obtain⟨b,hj,rfl,y,o⟩:=hrel;by_cases p:b<m
   ·have⟨W,ad,f,T,Q,D,R,_,H,G,O,s,hc⟩:=(P.later o).at_ b p;subst R;have⟨z,E⟩:=f;have r:=Y (show jY j x Z.length b (Z.getD b dE)=(bK j E && decide (z=x-m+1+b)) by unfold jY;rw[Oy,H,e];rfl);have L:=Y s;dsimp only at G;clear H s;have C:=Y (o.alloc o.size (.cells #[z,(T,Q,D)] 299));have ab:(b:Int)<m:=by omega
    by_cases i:z=x-m+1+b
    ·subst i;go_wp2_with fail;refine(oY D (L.later (af)) K).mono ?_;rintro f V ⟨rfl,J⟩;have F:=Y (C.t J);clear J G O;cases hr:bK (j:Int) E with
     |true=>
      have M:=Y (Aw y (by rw[r,hr];simp));clear hr;go_wp2_with fail;go_roundw
      case rel=>exact⟨b+1,by omega,by go_num,M,F⟩
      case measure=>simp[intOf];omega
     |false=>
      have d:=Y (vO (n:=j) (num:=x) (by rw[e];exact p) (by rw[r,hr];rfl));clear hr;go_wp2_with fail;go_ret;exact⟨by rw[d]<;>rfl,F⟩
    ·have X:(z !=x-(m:Int)+1+(b:Int))=true:=by simpa using i
     have d:=Y (vO (n:=j) (num:=x) (by rw[e];exact p) (by rw[r];simp[i]));clear i;go_wp2_with fail;go_ret;exact⟨by rw[d]<;>rfl,C⟩
   ·have d:=Y (kt (es:=Z) (num:=x) (n:=j) (by rw[e];exact S) (λA I=>y A (by have:=e.o;omega)));go_wp2_with fail;go_ret;exact⟨by rw[d]<;>rfl,o⟩
 ·have hd:decide (x-(m:Int)<0)=true:=by simp;omega
  have d:=Y (Hi (es:=Z) (num:=x) (n:=j) (by rw[e];omega));go_enter func209,ntmps209;go_wp2_with fail;go_ret;exact⟨by rw[d]<;>rfl,ce _ _⟩
theorem my(d:Int)(E G:Nat)(f:Bool)(n:Int)(H:PL u q m R)(t:EL u p c Z):
 C_ prog 170 #[.agg #[d,(q,m,E),(p,c,G),Zl f],n] u λA W=>A=Zv (aJ (aY ⟨d,R,Z,f⟩ n))/\OS u W:=by
 have aj:c<=maxLen:=t.2.1;unfold maxLen at aj;have Q:=Y H;have HE:=Y t;have y:=Y t.1;clear H t;by_cases h1:n<1
 ·have ab:decide (n<1)=true:=by simpa using h1
  have e:=Y (qF (b:=⟨d,R,Z,f⟩) (n:=n) (.inl h1));go_enter func170,ntmps170;go_wp2_with fail;go_ret;exact⟨by rw[e]<;>rfl,af⟩
 have ab:decide (n<1)=false:=by simpa using h1
 by_cases h2:32<n
 ·have M:decide (32<n)=true:=by simpa using h2
  have e:=Y (qF (b:=⟨d,R,Z,f⟩) (n:=n) (.inr (.inl h2)));go_enter func170,ntmps170;go_wp2_with fail;go_ret;exact⟨by rw[e]<;>rfl,af⟩
 have M:decide (32<n)=false:=by simpa using h2
 by_cases D:d<0
 ·have ad:decide (d<0)=true:=by simpa using D
  have e:=Y (qF (b:=⟨d,R,Z,f⟩) (n:=n) (.inr (.inr (.inl D))));go_enter func170,ntmps170;go_wp2_with fail;go_ret;exact⟨by rw[e]<;>rfl,af⟩
 have ad:decide (d<0)=false:=by simpa using D
 by_cases F:2147483647<d
 ·have ah:decide (2147483647<d)=true:=by simpa using F
  have e:=Y (qF (b:=⟨d,R,Z,f⟩) (n:=n) (.inr (.inr (.inr F))));go_enter func170,ntmps170;go_wp2_with fail;go_ret;exact⟨by rw[e]<;>rfl,af⟩
 have ah:decide (2147483647<d)=false:=by simpa using F
 have o:¬(n<1\/32<n\/d<0\/2147483647<d):=by omega
 by_cases I:(4:Int)<c
 ·have U:decide ((4:Int)<c)=true:=by simpa using I
  have e:=Y (LO (b:=⟨d,R,Z,f⟩) (n:=n) o (by have:=y.o;show 4<Z.length;omega));go_enter func170,ntmps170;go_wp2_with fail;go_ret;exact⟨by rw[e]<;>rfl,af⟩
 have U:decide ((4:Int)<c)=false:=by simpa using I
 have r:¬4<Z.length:=by have:=y.o;omega
 obtain⟨N,rfl⟩:=TA (show 0<=n by omega);have s:f=true/\(0:Int)<c\/f=true/\¬(0:Int)<c\/f=false:=by cases f<;>simp;omega
 rcases s with ⟨rfl,hs⟩|s
 ·have O:decide ((0:Int)<c)=true:=by simpa using hs
  have e:=Y (vo (b:=⟨d,R,Z,true⟩) (n:=N) o r (by unfold gy;rw[show decide (0<Z.length)=true by have:=y.o;simp;omega];rfl));go_enter func170,ntmps170;go_wp2_with fail;go_ret;exact⟨by rw[e]<;>rfl,af⟩
 have ae:=Y (show(f && decide (0<Z.length))=false by
  rcases s with ⟨rfl,hs⟩|rfl
  ·have:=y.o
   rw[Bool.true_and,decide_eq_false_iff_not];omega
  ·rfl)
 have P:H_ (bK (N:Int) R=false->aY ⟨d,R,Z,f⟩ N=3):=λi=>vo o r (by unfold gy;rw[i];simp);have ag:H_ (fm Z d (N:Int)=false->aY ⟨d,R,Z,f⟩ N=3):=λh=>vo o r (by unfold gy;rw[h];simp);have ai:H_ (bK (N:Int) R=true->fm Z d (N:Int)=true->aY ⟨d,R,Z,f⟩ N=0):=λi h=>CK o r (by unfold gy;rw[i,h,ae];rfl);have J:=Y (Bx.new u #[d,(q,m,E),(p,c,G),Zl f] 233);rcases s with ⟨rfl,hs⟩|rfl
 all_goals
  first|have O:decide ((0:Int)<c)=false:=by simpa using hs|skip
  go_enter func170,ntmps170;go_wp2_with fail;refine(oY E (c:=N) (Q.later (af)) (by omega)).mono ?_;rintro A w1 ⟨rfl,z⟩;have X:=Y (J.later z J.lt);have C:=Y ((af (v:=u)).trans (z.mono (by simp)));have V:=Y (HE.later C);clear z;have⟨f0,f1,S,f3⟩:=X.four;cases i:bK (N:Int) R with
  |false=>
   have e:=Y (P i);clear i;go_wp2_with fail;go_ret;exact⟨by rw[e]<;>rfl,C⟩
  |true=>
   have T:=Y i;clear i;go_wp2_with fail;refine(Ay (c:=G) (x:=d) (j:=N) V (by omega) (by omega) (by omega)).mono ?_;rintro A w2 ⟨rfl,L⟩;have K:=Y (C.t L);clear L f0 f1 S f3;cases h:fm Z d (N:Int) with
   |false=>
    have e:=Y (ag h);clear h;go_wp2_with fail;go_ret;exact⟨by rw[e]<;>rfl,K⟩
   |true=>
    have e:=Y (ai T h);clear h;go_wp2_with fail;go_ret;exact⟨by rw[e]<;>rfl,K⟩
theorem ks(d:Int)(s o:Nat)(e:Bool)(n k:Int)(x:PL u q m R)(t:EL u p c Z):
 C_ prog 245 #[.agg #[d,(q,m,s),(p,c,o),Zl e],n,k] u λy E=>
  y=Zv (aJ (dR ⟨d,R,Z,e⟩ n k))/\OS u E:=by
 have D:=Y x;have A:=Y t;clear x t;have z:=Y (Bx.new u #[d,(q,m,s),(p,c,o),Zl e] 233);go_enter func245,ntmps245;go_wp2_with fail;refine(my d s o e n (D.later (af)) (A.later (af))).mono ?_;rintro y K ⟨rfl,r⟩;have F:=Y (z.later r z.lt);have j:=Y ((af (v:=u)).trans (r.mono (by simp)));clear r;have⟨L,H,I,J⟩:=F.four;by_cases h:aY ⟨d,R,Z,e⟩ n=0
 ·have f:=Y h;rw[h,aQ];clear h;by_cases h1:k<0
  ·have G:decide (k<0)=true:=by simpa using h1
   have i:=Y (Ei (b:=⟨d,R,Z,e⟩) f (.inl h1));go_wp2_with fail;go_ret;exact⟨by rw[i]<;>rfl,j⟩
  ·have G:decide (k<0)=false:=by simpa using h1
   by_cases h2:d<k
   ·have C:decide (d<k)=true:=by simpa using h2
    have i:=Y (Ei (b:=⟨d,R,Z,e⟩) f (.inr h2));go_wp2_with fail;go_ret;exact⟨by rw[i]<;>rfl,j⟩
   ·have C:decide (d<k)=false:=by simpa using h2
    have i:=Y (rF (b:=⟨d,R,Z,e⟩) (k:=k) f (by show ¬(k<0\/d<k);omega));go_wp2_with fail;go_ret;exact⟨by rw[i]<;>rfl,j⟩
 ·rw[bJ h];have f:=Y h;clear h;go_wp2_with fail;go_ret;exact⟨by rw[Ir f,bJ f]<;>rfl,j⟩
end
def Mx.small(ops:List Pt)(es:List Ep):Prop:=(∀e∈es,e.aR.length<=100)/\es.length<=20/\ops.length<=100
theorem Bx.nine{p:Pt}(h:Bx u m (Zq p.at_ p.d) T):
 u.cell? m=Zb p.at_/\u.cell? (m,1)=Za p.d.z0/\u.cell? (m,2)=Za p.d.z1/\u.cell? (m,3)=Za p.d.z2/\u.cell? (m,4)=Za p.d.z3/\
 u.cell? (m,5)=Za p.d.z4/\u.cell? (m,6)=Za p.d.z5/\u.cell? (m,7)=Za p.d.z6/\u.cell? (m,8)=Za p.d.z7:=
 ⟨h.cell 0,h.cell 1,h.cell 2,h.cell 3,h.cell 4,h.cell 5,h.cell 6,h.cell 7,h.cell 8⟩
namespace Mx
end Mx
namespace Mx
def Upd.msgs(u:Upd):List Fr:=(cG u.al).dropLast.map (λc=>⟨0,c,0,[]⟩)++[⟨1,(cG u.al).getLast?.getD [],(bV u.qs).length,flat (bV u.qs)⟩]
theorem Upd.jh(u:Upd):u.al.length=u.qs.length+2:=by simp[Upd.al]
theorem Upd.mO(u:Upd):u.msgs.length=(u.qs.length+10)/9:=by
 unfold Upd.msgs;rw[OC,pm,List.length_dropLast,j7,u.jh];simp only[pu];omega
theorem Upd.zA(u:Upd):u.msgs≠[]:=by unfold Upd.msgs;simp
theorem Upd.og{u:Upd}(h:u.qs.length<=32):u.msgs.length<=4:=by rw[u.mO];omega
theorem Upd.tL(u:Upd):(u.msgs.map Fr.al).flatten=u.al:=by
 have b:cG u.al≠[]:=by
  intro e;have h1:=j7 u.al;rw[e,u.jh] at h1;simp at h1;omega
 have h:=yq u.al;unfold Upd.msgs;rw[le,List.map_map];have d:(cG u.al).dropLast.map (Fr.al ∘ λc=>(⟨0,c,0,[]⟩:Fr))=(cG u.al).dropLast:=by
  rw[show(Fr.al ∘ λc=>(⟨0,c,0,[]⟩:Fr))=id from rfl,List.map_id]
 rw[d,List.map_singleton,List.getLast?_eq_some_getLast b,Tw,List.dropLast_concat_getLast b];exact h
theorem lE(h:S∈cG L):S.length<=9:=by
 unfold cG at h;obtain⟨i,_,rfl⟩:=List.mem_map.mp h;rw[OM];omega
theorem Upd.tK{u:Upd}{f:Fr}(h:f∈u.msgs):f.al.length<=9:=by
 unfold Upd.msgs at h;rcases List.mem_append.mp h with h|h
 ·obtain⟨c,hc,rfl⟩:=List.mem_map.mp h;exact lE ((List.dropLast_sublist _).subset hc)
 ·rw[List.mem_singleton.mp h];simp only;cases e:(cG u.al).getLast? with
  |none=>simp
  |some c=>exact lE (List.mem_of_getLast? e)
theorem Upd.tM{u:Upd}{i:Nat}{f:Fr}(h:u.msgs[i]?=f)(b:i+1<u.msgs.length):f.kind=0/\f.nb=0/\f.bs=[]:=by
 unfold Upd.msgs at h b;rw[OC,pu] at b;rw[OO (by omega),i8] at h;cases e:(cG u.al).dropLast[i]? with
 |none=>rw[e] at h;simp at h
 |some c=>
  rw[e] at h;simp at h;subst h;exact⟨rfl,rfl,rfl⟩
theorem Upd.tJ{u:Upd}{i:Nat}{f:Fr}(h:u.msgs[i]?=f)(b:i+1=u.msgs.length):f.kind=1/\f.nb=(bV u.qs).length/\f.bs=flat (bV u.qs):=by
 unfold Upd.msgs at h b;rw[OC,pu] at b;rw[ON (by omega),show i-((cG u.al).dropLast.map (λc=>(⟨0,c,0,[]⟩:Fr))).length=0 by omega] at h;simp at h;subst h;exact⟨rfl,rfl,rfl⟩
