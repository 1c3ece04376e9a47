import Derived.Test.YtgklbhiamepfoaaGreatDoorZ23
set_option maxHeartbeats 16000000
set_option maxRecDepth 100000
namespace Go.Proofs.YtgklbhiamepfoaaGreatDoor
open Go renaming World->W_,Value->V_,Calls->C_
open Go.RowKit renaming Hid->H_
open Go.Proofs.Tryz Mx
variable {n g k m c j i h b B N M L K J I:Nat}{w z:W_}{Z:Bu}{X U:Nat->Prop}{W:List (List B8)}{V:Pf_}{T t:List MapEntry}{x y:Int}{a q p Q P O:Option Addr}{l s:List B8}{S:Array Nat}{v u r o f e d:V_}{R:Bool}{H:Operand}{G:Array Oper}{E:Oper}{D:Act}{C:Exit→Act→W_→Prop}{A:Nat→Prop}
section
open Go.RowKit
open Go.Maps (Keyed)
open Go.ChangeMaps (setBlock)
theorem fJ:Keyed prog 3:=Go.Maps.int_keyed Tryz.underlying3
theorem gL{k:Int}(h0:0<=k)(h1:k<=2147483647):keyOf prog 3 (.int .i64 k)=some (.int .i64 k):=by
 apply Go.Maps.keyOf_int_mk Tryz.underlying3;simp[Lit.wf,IntKind.min,IntKind.max,IntKind.signed,IntKind.bits];omega
theorem tF{first:Int}(hc:w.cell? c=Zb first):
 C_ prog 188 #[x,v,(c,0)] w λe a=>e=Zv (Zl (decide (x<first)))/\a=w:=by
 go_enter func188,ntmps188;go_wp2;go_ret;exact⟨rfl,rfl⟩
structure Rg (w:W_) (m r:Nat) (es:List MapEntry) (ck:Nat) (seen:Array Nat):Prop where
 mp:Mp 3 w m es ck
 it:∃since c0,w.heap[r]?=some (.mapIter (some m) since seen c0)/\(∀x∈es,x.born<since)/\since<=c0/\since<=ck
theorem Rg.left(h:Rg w m n T g S):w.rangeLeft m n=(leftOf T.toArray S).size:=by
 have⟨a,c0,h1,_⟩:=h.it;unfold World.rangeLeft;rw[h.mp.at_,h1]
theorem Rg.ne(h:Rg w m n T g S):n≠m:=by
 have⟨a,c0,h1,_⟩:=h.it;rintro rfl;rw[h.mp.at_] at h1;cases h1
theorem si{rest:List Oper}(d:E.guard=none){t:TypeId}(i:E.op=Op.range t H){e:TypeId}(f:prog.underlying t=some (.map 3 e))(j:D.eval H=.map (some b))(h:Mp 3 w b T n)(g:∀a,Rg a b w T n #[]->OS w a->wpList prog G C rest (D.put E.dst (w,0)) a):
 wpList prog G C (E::rest) D w:=by
 refine wpList_plain d λl c=>?_
 have k:=run_range_map (P:=prog) w t 3 e b T.toArray n f h.at_;unfold Oper.wp;simp[execOp,i,j,k,Result.andThen];refine c _ _ (g _ ⟨h.later (af),n,n,UO w _,h.lt,OJ _,OJ _⟩ (af))
theorem sX{rest:List Oper}(y:E.guard=none)(p:E.op=Op.next H false)(o:D.eval H=(n,0))(h:Rg w m n T g S)(I:wpList prog G C rest (D.put E.dst (.tuple #[Zl false])) w)(v:∀e∈T,∀c,Rg c m n T g (S.push e.born)->(leftOf T.toArray (S.push e.born)).size<(leftOf T.toArray S).size->w.grownBy c (some n)->(Instr.entry (n,0)).run prog c=.ok (.tuple #[e.key,e.val]) c->wpList prog G C rest (D.put E.dst (.tuple #[Zl true,e.key,e.val])) c):
 wpList prog G C (E::rest) D w:=by
 refine wpList_plain y λM l=>?_
 have A:=h.ne;have⟨a,c0,t,s,x,k⟩:=h.it;unfold Oper.wp;rcases run_next_at (P:=prog) w E.type n m a c0 S T.toArray g t h.mp.at_ (by simpa using s) x with ⟨h0,d⟩|⟨e,i,b,f,d⟩
 ·simp[execOp,p,o,d,Result.andThen];exact l _ _ I
 ·have⟨F,K⟩:=mem_left i;have B:b.heap[n]?=some (.mapIter (some m) a S c0):=by rcases f with rfl|rfl<;>exact t
  have L:b.heap[m]?=some (.map T.toArray g):=by rcases f with rfl|rfl<;>exact h.mp.at_
  have j:n<b:=(co.1 B).1;have u:w.grownBy (setBlock b n (.mapIter (some m) a (S.push e.born) g)) (some n):=by
   have h2:=gS (w:=b) (m:=n) (W:=.mapIter (some m) a (S.push e.born) g);rcases f with rfl|rfl
   ·exact h2
   ·exact(cZ (au w (J:=some n))).trans h2
  have r:Mp 3 (setBlock b n (.mapIter (some m) a (S.push e.born) g)) m T g:=h.mp.grow u (λz=>A (OG z).symm);have q:e∈T:=by simpa using F
  simp[execOp,p,o,d,Result.andThen];refine l _ _ (v e q _ ⟨r,a,g,ic j,s,k,k⟩ (left_shrinks T.toArray S e i) u ?_);exact run_entry_at _ n m a S T.toArray g e (ic j) r.at_ (by simpa using q) (by simpa using h.mp.bn)
theorem Hy(h:t.Sublist T):(leftOf t.toArray S).size<=(leftOf T.toArray S).size:=by
 unfold leftOf;have:=(h.filter (λe=>!S.contains e.born)).length_le;simpa using this
structure Kept (es es':List MapEntry) (first:Int):Prop where
 sub:es'.Sublist es
 kept:∀e∈es,∀k:Int,e.key=.int .i64 k->first<=k->e∈es'
theorem xX{first:Int}(hM:Mp 3 w m T n)(U:∀e∈T,∃(k:Nat) (z:Option Addr) (r s:Nat),e.key=Zb (k:Int)/\(k:Int)<=2147483647/\e.val=(z,r,s))(hc:w.cell? c=Zb first)(ah:c≠m):
 C_ prog 187 #[.map (some m),.func (.func 188) #[] #[(c,0)]] w λe N=>e=Zr #[]/\H_ (∃a,Mp 3 N m a n/\Kept T a first)/\H_ (w.grownBy N (some m)):=by
 have HC:=Y hc;have HK:=Y U;have HM:=Y hM;clear hc U;go_enter func187,ntmps187;go_wp2_with (first|(at_range;refine si rfl rfl Tryz.underlying234 rfl HM ?_;intro w0 P X)|go_in);go_frame;have ag:=Y X;have ab:=Y P;clear X P;go_loopw [4] (λ_ wr=>∃(a:List MapEntry) (h:Array Nat),H_ (Rg wr m w a n h)/\H_ (Kept T a first)/\H_ (w.grownBy wr (some m))) (λ_ wr=>wr.rangeLeft m w)
 case atStart=>exact⟨T,#[],ab,⟨List.Sublist.refl _,λe l _ _ _=>l⟩,bQ ag⟩
 case round=>
  have⟨a,h,y,p,E⟩:=hrel;have ak:w<=wr.heap.size:=E.size;go_wp2_with (first|(at_next;refine sX rfl rfl rfl y ?_ ?_)|go_in)
  ·go_wp2;go_end0;exact⟨rfl,⟨a,y.mp,p⟩,E⟩
  ·intro e l f O L W I;have⟨k,z,r,s,u,ad,G⟩:=HK e (p.sub.subset l);have HE:=Y l;have M:=Y u;have J:H_ (w.grownBy f (some m)):=E.andThen W (λF o=>by cases o;exact Or.inl (OJ _));have d:=Y O;have Q:=Y L;rw[u,G] at I;rw[u,G];have A:f.cell? c=Zb first:=J.cell (row:=m) HC (λe=>ah (OG e));clear l O W L u G;by_cases B:(k:Int)<first
   ·have hd:decide ((k:Int)<first)=true:=by simpa using B
    have⟨i,K⟩:=Tv HE;have ae:∀q,(Builtin.delete_ #[234,3] q #[.map (some m),k]).run prog f=.ok (.tuple #[]) (setBlock f m (.map (a.eraseIdx i).toArray n)):=λq=>Mp.del (ty:=q) fJ Tryz.underlying234 d.mp (gL (by omega) ad) K M
    have HI:=Y K;have HF:=Y B;clear K B;have⟨H,D⟩:=ZX (setBlock f m (.map (a.eraseIdx i).toArray n));rw[<-D] at ae;have R:H_ (f.grownBy H (some m)):=(by rw[D];exact gS);have M2:H_ (Mp 3 H m (a.eraseIdx i) n):=d.mp.erase i (by rw[D];exact ic d.mp.ltm);have V:=Y (show Rg H m w (a.eraseIdx i) n (h.push e.born) from⟨M2,by
     have⟨aj,c0,h1,h2,h3,h4⟩:=d.it;exact⟨aj,c0,(R.block _ (co.1 h1).1 (λe1=>d.ne (OG e1))).trans h1,λx hx=>h2 x (List.mem_of_mem_eraseIdx hx),h3,h4⟩⟩)
    go_upto_region 3 with fail;clear I;go_wp2_with fail;refine(tF (x:=(k:Int)) (v:=(z,r,s)) A).mono ?_;rintro Z wz ⟨rfl,j⟩;obtain rfl:=j.symm;clear j;clear A;rw[hd];go_wp2;go_roundw
    case rel=>exact⟨a.eraseIdx i,h.push e.born,V,⟨(Ub a i).trans p.sub,λx hx k' C ai=>by
     have h1:=p.kept x hx k' C ai;have⟨F,o⟩:=Tv h1;have af:F≠i:=by
      rintro rfl;rw[HI] at o;cases o
      rw[M] at C;cases C
      have:=HF.o;omega
     rw[List.mem_eraseIdx_iff_getElem?];exact⟨F,af,o⟩⟩,J.trans R⟩
    case measure=>
     rw[V.left,y.left];exact Nat.lt_of_le_of_lt (Hy (Ub a i)) Q
   ·have hd:decide ((k:Int)<first)=false:=by simpa using B
    go_upto_region 3 with fail;clear I;go_wp2_with fail;refine(tF (x:=(k:Int)) (v:=(z,r,s)) A).mono ?_;rintro Z wz ⟨rfl,j⟩;obtain rfl:=j.symm;clear j;clear A;rw[hd];go_wp2;go_roundw
    case rel=>exact⟨a,h.push e.born,d,p,J⟩
    case measure=>
     rw[d.left,y.left];exact Q
end
section
open Go.RowKit
theorem Pbx.ne{o l:Int}{r:Bool}{C:Int}{hc:Nat}{v:Option Addr}{z:Nat}{s:Option Addr}{u f:Nat}(t:Pbx w k g n x a c j q i h R m y o l p b B r C Q N hc)(e:PrR A w n W Z V g P M L O K J m v I z s u f):k≠g/\k≠m/\g≠m:=by
 have⟨E,_,_,_,_,_,_,_,_,T,_⟩:=e.nd;have⟨F,D,d⟩:=e.mp.is;have h1:w.heap[k]?=some (.cells _ 239 (0,0)):=t;have h2:w.heap[g]?=some (.cells _ 279 (0,0)):=T.bx;refine⟨?_,?_,?_⟩
 ·rintro rfl;rw[h1] at h2;simp at h2
 ·rintro rfl;rw[h1] at d;cases d
 ·rintro rfl;rw[h2] at d;cases d
theorem SnE.sub(h:SnE A w n W g T)(hs:t.Sublist T):SnE A w n W g t:=λe a=>h e (hs.subset a)
theorem wV(hm:Mut U w){hc:Nat}(t:Pbx w k g n x a c j q i h R m (V.safe:Int) (V.s:Int) (V.base:Int) P L K V.known (V.goal:Int) O J hc)(s:PrR U w n W Z V g p b B Q N M m P L K O J hc)(aP:X k)(ag:X g)(v:X m)(E:∀Z,X Z->U Z)(hh:(V.ar:Int)<=2147483647)(hl:Z.se.length<=4):
 C_ prog 148 #[(k,0),.agg #[Zb Z.num,(p,b,B),(Q,N,M),Zl Z.be]] w λe w'=>e=Zr #[]/\H_ (PrD X U w w' k n W Z V):=by
 have C:=Y (Pbx.ne t s);have⟨l,hN⟩:=ZX V.ar;have ab:=Y (show Z.num=(l:Int) by rw[s.num,hN]);have ap:N=Z.se.length:=s.bu.se.1.symm;have ay:=Y ap;have aJ:N<=4:=by omega
 have aH:(l:Int)<=2147483647:=by rw[hN];exact hh
 rw[ab];have⟨W0,ad⟩:=ZX (w.alloc (.cells #[l,(p,b,B),(Q,N,M),Zl Z.be] 233));have B0:=bxA ad;have z:=beA ad;have S:H_ (Pbx W0 k g n x a c j q i h R m (V.safe:Int) (V.s:Int) (V.base:Int) P L K V.known (V.goal:Int) O J hc):=Bx.later t z (Bx.lt t);have HR:=Y (s.later z);have HM:=Y (hm.later z);have aI:k<w:=Bx.lt t;have aA:¬w=k:=by omega
 have aK:¬k=w:=by omega
 clear t s hm ap hh hl;have⟨r,u⟩:=ZX (rL W0 k (Zb (l:Int)) (p,b,B) (Q,N,M) (Zl Z.be));have D:H_ (W0.grownBy r (some k)):=(by rw[u];exact jn _ _);have X1:H_ (Pbx r k g n (l:Int) p b B Q N M Z.be m (V.safe:Int) (V.s:Int) (V.base:Int) P L K V.known (V.goal:Int) O J hc):=(by rw[u];exact(((Bx.set S 2 _).set 3 _).set 4 _).set 5 _);have R1:=Y (HR.ext (Ex.one D) (λZ d=>by rw[d];exact E _ aP) (λe=>C.1 e.symm) (λe=>C.2.1 e.symm));have M1:=Y (HM.eW (Ex.one D) X1 gF);have B1:=Y (Bx.grow B0 D (λe=>aA (OG e)));have⟨W2,af⟩:=ZX (r.alloc (.cells #[Zb ((l:Int)-(N:Int))] 3));have A:=beA af;have F2:=bxA af;have X2:H_ (Pbx W2 k g n (l:Int) p b B Q N M Z.be m (V.safe:Int) (V.s:Int) (V.base:Int) P L K V.known (V.goal:Int) O J hc):=Bx.later X1 A (Bx.lt X1);have f:=Y (R1.later A);have M2:=Y (M1.later A);have⟨b0,b1,b2,b3⟩:=Bx.four B0;have⟨x0,x1,x2,x3,x4,x5,x6,x7,x8,x9,av,au,aw,aF⟩:=S.cells;clear x0 x1 x6 x7 x8 x9 av au aw aF;have xz:=Bx.frozen S;go_enter func148,ntmps148;go_upto_region 1 with fail;rw[<-ad];go_upto_region 2 with fail;unfold rL at u;rw[<-u];clear b0 b1 b2 b3 x2 x3 x4 x5 xz;have⟨b0,b1,b2,b3⟩:=Bx.four B1;go_upto_region 3 with fail;rw[<-af];clear b0 b1 b2 b3;have x6:=X2.cells.2.2.2.2.2.2.1;have f0:W2.cell? r=Zb ((l:Int)-(N:Int)):=F2.cell 0;have⟨es,ck,H,ah,ai⟩:=f.mp;have al:=Y ah;have ax:=Y ai;have az:=Y H;clear ah ai;have aE:r≠m:=by
  intro e;have h1:=F2.o;unfold Bx at h1;rw[e,H.at_] at h1;cases h1
 clear H;go_wp2_with fail;refine(xX az (λe he=>by
  have⟨G,aG,aD,aC,h1,h2,h3,h4,h5,h6⟩:=al e he;exact⟨G,aD,n,aC,h1,by have h7:=hN.o;omega,h4⟩) f0 aE).mono ?_
 rintro e F ⟨rfl,K3,G3⟩;have⟨ar,an,ak⟩:=K3.o;have ao:=Y an;have aq:=Y ak;clear an ak x6 f0;have o:=Y (Ex.one G3);have X3:H_ (Pbx F k g n Z.num p b B Q N M Z.be m (V.safe:Int) (V.s:Int) (V.base:Int) P L K V.known (V.goal:Int) O J hc):=(by rw[ab];exact Ex.bx o X2 C.2.1);have R3:=Y (show PrR U F n W Z V g p b B Q N M m P L K O J hc from by
  have y:Ex U W2 F:=o.mono (λZ _ d=>by rw[d];exact E _ v);have⟨bl,h1,h2⟩:=f.nd;refine⟨⟨bl,h1,h2.ext o (λZ d=>by rw[d];exact E _ v) C.2.2⟩,f.bu.ext y,⟨ar,ck,ao,(al.sub aq.sub).ext y,λG I aB=>?_⟩,f.qu.sB y,f.qc,f.hd.ext y,f.hc,f.num⟩;have⟨e,he,aj⟩:=ax G I aB;exact⟨e,aq.kept e he G aj (by rw[ab,<-ay] at I;exact I),aj⟩)
 have M3:=Y (M2.vJ o ao.at_);have E3:=Y (show Ex X w F from((Ex.below z).trans ((Ex.one D).mono (λZ _ d=>by rw[d];exact aP))).trans ((Ex.below A).trans (o.mono (λZ _ d=>by rw[d];exact v))));go_wp2;go_end0;exact⟨rfl,⟨M3,⟨g,p,b,B,Q,N,M,m,P,L,K,O,J,hc,X3,R3,aP,ag,v,E⟩,E3⟩⟩
end
section
open Go.RowKit Go.ChangeMaps
def fA(b:Bu)(p:Pf_):Bu:=if p.known=true/\p.queue.length=0 then dj b (p.goal:Int) else b
theorem AO{b:Bu}(h:¬(V.known=true/\V.queue.length=0)):fA b V=b/\Mir.bA V=V:=by
 unfold fA Mir.bA;rw[UX h,UX h];exact⟨rfl,rfl⟩
theorem AP{b:Bu}(h:V.known=true/\V.queue.length=0):fA b V=dj b (V.goal:Int)/\Mir.bA V={V with safe:=V.goal}:=by
 unfold fA Mir.bA;rw[UY h,UY h];exact⟨rfl,rfl⟩
theorem PrD.same(c:Mut U w)(b:PrW X U w g n W Z V)(a:OS w z):PrD X U w z g n W Z V:=⟨c.later a,b.later a,Ex.below a⟩
theorem CH(r:Z.num=(N:Int))(v:Mut X w)(s:Buo X w a g m q c j Z.op Z.se)(t:aY Z n=0)(h1:k<=N):
 C_ prog 226 #[.agg #[N,(a,g,m),(q,c,j),Zl Z.be],n,k] w λx l=>
  ∃b d o e f p,x=Zr #[.agg #[N,.slice b d o,.slice e f p,Zl (dj Z (k:Int)).be],Zn]/\H_ (Buo X l b d o e f p (dj Z (k:Int)).op (dj Z (k:Int)).se)/\H_ (OS w l):=by
 have h:=Gl (y:=(k:Int)) v s t (by omega) (by omega);rw[r] at h;exact h
theorem EZ(m:Mut U w)(e:PrW X U w g n W Z V)(b:¬(V.known=true/\V.queue.length=0)):
 C_ prog 195 #[(g,0)] w λs q=>s=Zv Zn/\H_ (PrD X U w q g n W (fA Z V) (Mir.bA V)):=by
 have⟨j,l⟩:=AO (b:=Z) b;rw[j,l];have f:=Y e;have i:=Y m;have⟨P,Q,N,L,I,S,O,H,R,a,J,M,E,hc,d⟩:=e;have⟨v,t,p,z,D,B,A,r,y,C,K,k,u,x⟩:=d.bx.cells;have c:V.queue.length=a:=d.r.qu.1;clear d m v t p z D B A r y C u x j l;cases hkk:V.known with
 |false=>
  rw[hkk] at k;clear hkk b c;go_enter func195,ntmps195;go_wp2;go_ret;exact⟨rfl,(PrD.same i f (ce _ _))⟩
 |true=>
  rw[hkk] at k;have o:0<a:=by
   rcases Tu a with h|h
   ·exact absurd ⟨hkk,by rw[c,h]⟩ b
   ·exact h
  have G:decide ((0:Int)<(a:Int))=true:=by simpa using o
  have F:decide (0<a)=true:=by simpa using o
  clear hkk b c;go_enter func195,ntmps195;go_wp2;go_ret;exact⟨rfl,(PrD.same i f (ce _ _))⟩
theorem BE(hm:Mut U w)(hp:PrW X U w g n W Z V)(l:aY Z n=0)(hg:V.goal<=V.ar)(hh:(V.ar:Int)<=2147483647)(hk:V.known=true/\V.queue.length=0):
 C_ prog 195 #[(g,0)] w λt r=>t=Zv Zn/\H_ (PrD X U w r g n W (fA Z V) (Mir.bA V)):=by
 have⟨e1,e2⟩:=AP (b:=Z) hk;rw[e1,e2];have⟨aD,oa,on,oc,sa,sn,sc,aC,qa,qn,qc,ha,hn,hc,E⟩:=hp;have⟨N,hN⟩:=ZX V.ar;have ag:=Y (show Z.num=(N:Int) by rw[E.r.num,hN]);have HX:=Y E;have ah:=Y hm;have NE:=Y E.ne;have aB:=Y l;have HG:H_ (V.goal<=N):=(by rw[hN];exact hg);have HH:=Y hh;have aR:g<w:=Bx.lt E.bx;have aH:=Y (cb l).2.1;obtain⟨H,ai⟩:∃H:Bool,H_ (H=(dj Z (V.goal:Int)).be):=⟨_,rfl⟩;have⟨x0,I,A,S,T,x5,x6,x7,x8,x9,ad,ab,P,ay⟩:=E.bx.cells;rw[ag] at A;have hq:qn=0:=by rw[<-E.r.qu.1];exact hk.2
 rw[hk.1] at ab;rw[hq] at ad;have HK:=Y hk;have HQ:=Y hq;clear E hm l hg hh e1 e2 hk hq x0 x6 x7 x8 x9 ay;go_enter func195,ntmps195;go_upto_region 3 with fail;clear ad ab;have UB:H_ (Buo U w.drew oa on oc sa sn sc Z.op Z.se):=HX.r.bu.ext (Ex.below (ce _ _).drew);have UA:=Y (show Buo (λZ=>U Z\/Z=w) (w.alloc (.cells #[Zi,Zs,Zs,Zl false] 233)).drew oa on oc sa sn sc Z.op Z.se from(HX.r.bu.wd ((Wd.refl U w).add (OJ _))).ext (Ex.below (af).drew));have d:g<w:=(by assumption);have aF:¬w=g:=by omega
 have DA:=Y (show OS w (w.alloc (.cells #[Zi,Zs,Zs,Zl false] 233)).drew from(af).drew);have DB:=Y (show OS w w.drew from(ce _ _).drew);have XA:H_ (Bx (w.alloc (.cells #[Zi,Zs,Zs,Zl false] 233)).drew w #[Zi,Zs,Zs,Zl false] 233):=Bx.dC w _ _;have aP:¬U w:=λhs=>by have:=ah.lt _ hs;omega
 have MA:=Y (show Mut (λZ=>U Z\/Z=w) (w.alloc (.cells #[Zi,Zs,Zs,Zl false] 233)).drew from(ah.later DA).add XA (eA rfl));have MB:=Y (ah.later DB);have WA:=Y (show Wd U (λZ=>U Z\/Z=w) w from(Wd.refl U w).add (OJ _));go_region_held3 (λr=>r.cell? (g,1)=Zb (n:Int)/\r.cell? (g,2)=Zb (N:Int)/\r.cell? (g,3)=(oa,on,oc)/\r.cell? (g,4)=(sa,sn,sc)/\r.cell? (g,5)=Zl Z.be/\r.cell? (g,12)=Zb (V.goal:Int))
  (first|((try simp only[an,aq d]);with_reducible exact⟨I,A,S,T,x5,P⟩)|((try simp only[aq aE,aw aF]);with_reducible exact⟨al,aj,ar,am,ax,ap⟩))
  (first|(go_at_call 226;(with_reducible refine(CH ag.o MB.o UB.o aB.o HG.o).mono ?_);rintro t e ⟨o,p,z,s,u,y,rfl,U2,E2⟩;have b:=Y (DB.t E2);have al:=(b.cell (p:=(g,1)) d).trans I;have aj:=(b.cell (p:=(g,2)) d).trans A;have ar:=(b.cell (p:=(g,3)) d).trans S;have am:=(b.cell (p:=(g,4)) d).trans T;have ax:=(b.cell (p:=(g,5)) d).trans x5;have ap:=(b.cell (p:=(g,12)) d).trans P;have aE:g<e:=OE d b.size;rw[<-ai])|(go_at_call 226;(with_reducible refine(CH ag.o MA.o UA.o aB.o HG.o).mono ?_);rintro t e ⟨o,p,z,s,u,y,rfl,U2,E2⟩;have b:=Y (DA.t E2);have al:=(b.cell (p:=(g,1)) d).trans I;have aj:=(b.cell (p:=(g,2)) d).trans A;have ar:=(b.cell (p:=(g,3)) d).trans S;have am:=(b.cell (p:=(g,4)) d).trans T;have ax:=(b.cell (p:=(g,5)) d).trans x5;have ap:=(b.cell (p:=(g,12)) d).trans P;have aE:g<e:=OE d b.size;rw[<-ai];have X2:=Y (XA.later E2 XA.lt);have aO:e.cell? w=Zb 0:=X2.cell 0;have aN:e.cell? (w,1)=Zs:=X2.cell 1;have aI:e.cell? (w,2)=Zs:=X2.cell 2;have aK:e.cell? (w,3)=Zl false:=X2.cell 3;have zz:=X2.frozen))
 all_goals
  first
   |(have⟨m,G⟩:=ZX (e.alloc (.cells #[N,(o,p,z),(s,u,y),Zl H] 233))
     have⟨D,C⟩:=ZX e.heap.size
     have X3:H_ (Bx m D #[N,(o,p,z),(s,u,y),Zl H] 233):=(by rw[G,C];exact Bx.new e _ _);have F3:=beA G;have D3:=Y (b.t F3);have U3:H_ (Buo U m o p z s u y (dj Z (V.goal:Int)).op (dj Z (V.goal:Int)).se):=U2.ext (Ex.below F3);have aG:w<=D:=by rw[C];exact b.size
     rw[<-G,<-C])
   |(have⟨m,G⟩:=ZX (((((e.setCell w (Zb (N:Int))).setCell (w,1) (o,p,z)).setCell (w,2) (s,u,y)).setCell (w,3) (Zl H)))
     have⟨D,C⟩:=ZX w.heap.size
     have U3:H_ (e.grownBy m (some w)):=(by rw[G];exact ak (ak (ak (ak (au _) _ _) _ _) _ _) _ _);have X3:H_ (Bx m D #[N,(o,p,z),(s,u,y),Zl H] 233):=(by rw[G,C];exact(((X2.set 0 _).set 1 _).set 2 _).set 3 _);have D3:=Y (aM b U3 (OJ _));have Z3:H_ (Ex (λZ=>Z=w) e m):=Ex.one U3;have U3:=Y (show Buo U m o p z s u y (dj Z (V.goal:Int)).op (dj Z (V.goal:Int)).se from(U2.ext (Z3.mono (λZ _ l=>.inr l))).wd (λZ _ hs=>.inl hs));have aG:w<=D:=by rw[C];exact OJ _
     rw[<-G,<-C])
  clear I A S T x5 P al aj ar am ax ap;try clear aO aN aI aK zz
  have f:=Y (HX.later D3);have M4:=Y (ah.later D3);have aL:¬D=g:=by omega
  have aQ:¬g=D:=by omega
  have⟨x0,I,A,S,T,x5,x6,x7,x8,x9,ad,ab,P,ay⟩:=f.bx.cells;have xz:=Bx.frozen f.bx;clear x0 I A S T x5 x6 x8 x9 ad ab ay;have⟨W5,av⟩:=ZX (m.setCell (g,7) (Zb (V.goal:Int)));have G5:H_ (m.grownBy W5 (some g)):=(by rw[av];exact ak (au _) _ _);have Z5:=Y (Ex.one G5);have X5:H_ (Pbx W5 g aD n Z.num oa on oc sa sn sc Z.be aC (V.goal:Int) (V.s:Int) (V.base:Int) qa qn qc V.known (V.goal:Int) ha hn hc):=(by rw[av];exact Bx.set f.bx 7 _);have B5:=Y (Ex.bx Z5 X3 aL);have M5:=Y (M4.eW Z5 X5 gF);have aJ:H_ (Ex U m W5):=Y (Z5.mono (λZ _ l=>by rw[l];exact f.sub _ f.aP));have R5:=Y (show PrR U W5 n W (dj Z (V.goal:Int)) {V with safe:=V.goal} aD o p z s u y aC qa qn qc ha hn hc from by
   have F:=f.r.ext Z5 (λZ l=>by rw[l];exact f.sub _ f.aP) (λt=>NE.1 t.symm) (λt=>NE.2.1 t.symm);refine⟨F.nd,U3.ext aJ,F.mp.low ?_,F.qu,F.qc,F.hd,F.hc,F.num⟩;have h1:(aX Z (V.goal:Int)).length<=Z.se.length:=by unfold aX;rw[ge];omega
   show Z.num-(Z.se.length:Int)<=Z.num-((aX Z (V.goal:Int)).length:Int)
   omega)
  go_upto_region 7 with fail;rw[<-av];clear x7 P xz;have⟨t0,t1,t2,t3⟩:=Bx.four B5;go_wp2_with fail;have az:(dj Z (V.goal:Int)).se.length<=4:=by
   have h1:(aX Z (V.goal:Int)).length<=Z.se.length:=by unfold aX;rw[ge];omega
   have h2:=aH.o;show(aX Z (V.goal:Int)).length<=4;omega
  have ao:=wV (X:=X) (U:=U) (k:=g) (n:=n) (W:=W) (Z:=dj Z (V.goal:Int)) (V:={V with safe:=V.goal}) (w:=W5) M5 (g:=aD) (x:=Z.num) (a:=oa) (c:=on) (j:=oc) (q:=sa) (i:=sn) (h:=sc) (R:=Z.be) (p:=o) (b:=p) (B:=z) (Q:=s) (N:=u) (M:=y) (m:=aC) (P:=qa) (L:=qn) (K:=qc) (O:=ha) (J:=hn) (hc:=hc) X5 R5 f.aP f.ag f.am f.sub HH az;have aA:(dj Z (V.goal:Int)).num=(N:Int):=ag.o;rw[aA,<-ai] at ao;clear aA az;refine ao.mono ?_;clear ao;rintro t w8 ⟨rfl,P8⟩;clear t0 t1 t2 t3;go_wp2_with fail;have E8:=Y (show Ex X w w8 from(Ex.below D3).trans ((Z5.mono (λZ _ l=>by rw[l];exact f.aP)).trans P8.ext));exact UM (v:=.nilIface) (by simp[results,Tryz.results195,go_sem]) rfl ⟨rfl,Y ⟨P8.o.mu,P8.o.pr,E8.o⟩⟩
theorem iR(c:Mut U w)(b:PrW X U w g n W Z V)(d:aY Z n=0)(f:V.known=true->V.goal<=V.ar)(i:(V.ar:Int)<=2147483647):
 C_ prog 195 #[(g,0)] w λe h=>e=Zv Zn/\H_ (PrD X U w h g n W (fA Z V) (Mir.bA V)):=by
 by_cases a:V.known=true/\V.queue.length=0
 ·exact BE c b d (f a.1) i a
 ·exact EZ c b a
end
section
open Go.RowKit Go.ChangeMaps
def oU(w:W_)(P:Nat)(v0 v1 v2 v3 v4 v5 v6 v7 v8 v9 Rn Ro Rr Rq:V_):W_:=(((((((((((((w.setCell ⟨P,0,none⟩ (v0)).setCell ⟨P,1,none⟩ (v1)).setCell ⟨P,2,none⟩ (v2)).setCell ⟨P,3,none⟩ (v3)).setCell ⟨P,4,none⟩ (v4)).setCell ⟨P,5,none⟩ (v5)).setCell ⟨P,6,none⟩ (v6)).setCell ⟨P,7,none⟩ (v7)).setCell ⟨P,8,none⟩ (v8)).setCell ⟨P,9,none⟩ (v9)).setCell ⟨P,10,none⟩ (Rn)).setCell ⟨P,11,none⟩ (Ro)).setCell ⟨P,12,none⟩ (Rr)).setCell ⟨P,13,none⟩ (Rq)
theorem yI{j g a c b h i:V_}:w.grownBy (oU w n v u r o f e d j g a c b h i) (some n):=ak (ak (ak (ak (ak (ak (ak (ak (ak (ak (ak (ak (ak (ak (au w) _ _) _ _) _ _) _ _) _ _) _ _) _ _) _ _) _ _) _ _) _ _) _ _) _ _) _ _
theorem Bx.oU{w:W_}{P:Nat}{o:Array V_}{t:TypeId}(q:Bx w P o t)(hs:o.size=14)(m b f c n g k h l i j a d e:V_):Bx (oU w P m b f c n g k h l i j a d e) P #[m,b,f,c,n,g,k,h,l,i,j,a,d,e] t:=by
 have h2:=(((((((((((((q.set 0 m).set 1 b).set 2 f).set 3 c).set 4 n).set 5 g).set 6 k).set 7 h).set 8 l).set 9 i).set 10 j).set 11 a).set 12 d).set 13 e;have r:((((((((((((((o.setIfInBounds 0 m).setIfInBounds 1 b).setIfInBounds 2 f).setIfInBounds 3 c).setIfInBounds 4 n).setIfInBounds 5 g).setIfInBounds 6 k).setIfInBounds 7 h).setIfInBounds 8 l).setIfInBounds 9 i).setIfInBounds 10 j).setIfInBounds 11 a).setIfInBounds 12 d).setIfInBounds 13 e)=#[m,b,f,c,n,g,k,h,l,i,j,a,d,e]:=by
  apply TW;intro p
  match p with
  |0|1|2|3|4|5|6|7|8|9|10|11|12|13=>simp[hs]
  |p+14=>
   rw[TQ (by simp[hs]),TQ (by simp)]
 rw[r] at h2;exact h2
structure PrB (A S:Nat->Prop) (w w':W_) (P n:Nat) (ae:List (List B8)) (b:Bu) (p:Pf_) (N:Nat->Prop):Prop where
 new:∀b,N b->w.heap.size<=b
 mu:Mut (fun b=>S b\/N b) w'
 pr:PrW (fun b=>A b\/N b) (fun b=>S b\/N b) w' P n ae b p
 ext:Ex A w w'
theorem tS(hm:Mut U w){cs:Array V_}(hx:Bx w k cs 239)(ah:cs[0]?=(g,0))(ai:cs[1]?=Zb (n:Int))(an:cs.size=14)(hbl:W[m]?=l)(av:Nd U w g n l (m:Int) (c:Int))(I:X k)(sub:∀b,X b->U b)(hs:((c+1:Nat):Int)<=2147483647)(hh:(m:Int)<=2147483647):
 C_ prog 123 #[(k,0)] w λe w'=>e=Zv Zn/\H_ (∃aG,PrB X U w w' k n W ⟨(m:Int),[],[],false⟩ ⟨m,c+1,0,false,0,0,[],[]⟩ aG):=by
 have x0:w.cell? ⟨k,0,none⟩=(g,0):=(hx.cell 0).trans ah;have x1:w.cell? ⟨k,1,none⟩=Zb (n:Int):=(hx.cell 1).trans ai;have HX:=Y hx;have HM:=Y hm;have au:=Y an;have ak:=Y hbl;have aC:=Y av;have HS:=Y hs;have L:=Y hh;clear hx hm ah ai an hbl av hs;go_enter func123,ntmps123;go_wp2_with fail;refine(sj HM.o aC.o).mono ?_;rintro e w1 ⟨f,rfl,N1,E1⟩;clear x0 x1;obtain⟨W2,ab⟩:∃W2:W_,H_ (W2=w1.alloc (.cells #[.pointer (some ⟨f,0,none⟩),.int .i64 (n:Int)] 219)):=⟨_,rfl⟩;have S:=bxA ab;have D2:=beA ab;have N2:=Y (N1.o.later D2.o);have F2:=Y (show OS w W2 from E1.o.trans (D2.o.mono E1.o.size));go_upto_region 2 with fail;rw[<-ab.o];have⟨D,y⟩:=S.o.pair;go_upto_region 4 with fail;go_wp2_with fail;refine(gE N2.o.2.2).mono ?_;rintro e w3 ⟨rfl,P⟩;have B3:=Y (S.o.later P.o S.o.lt);have N3:=Y (N2.o.later P.o);have F3:=Y (show OS w w3 from F2.o.trans (P.o.mono F2.o.size));clear D y;have⟨D,y⟩:=B3.o.pair;go_upto_region 7 with fail;go_wp2_with fail;refine(oR N3.o.2.2).mono ?_;rintro e j ⟨r,rfl,O4,E4⟩;have B4:=Y (B3.o.later E4.o B3.o.lt);have O:=Y (N3.o.later E4.o);have V:=Y (show OS w j from F3.o.trans (E4.o.mono F3.o.size));clear D y;have⟨D,y⟩:=B4.o.pair;have⟨QB,aH⟩:=ay.blo O4.o N3.o.2.1 (OJ _);have aB:=Y QB;clear QB;have X4:=Y (HX.o.later V.o HX.o.lt);have ad:(Instr.makeMap 234 none).run prog j=.ok (.map (some j)) (j.alloc (.map #[] 0)):=run_makeMap _ j;obtain⟨p,af⟩:∃p:W_,H_ (p=j.alloc (.map #[] 0)):=⟨_,rfl⟩;rw[<-af.o] at ad;have A:=beA af;have E:=Y (show Mp 3 p j [] 0 from⟨by rw[af.o];exact UO j _,λe o=>by simp at o,by simp,by simp,λe o=>by simp at o⟩);obtain⟨a,ap⟩:∃a:Nat,H_ (a=j):=⟨_,rfl⟩;rw[<-ap.o] at ad E;obtain⟨q,ag⟩:∃q:W_,H_ (q=setBlock p a (.map (fS [] (.int .i64 (m:Int)) (.slice (some ⟨r,0,none⟩) n n) 0).toArray (0+1))):=⟨_,rfl⟩;have aD:(Instr.mapUpdate 234 (.map (some a)) (Zb (m:Int)) (r,0,n,n)).run prog p=.ok () q:=by
  rw[ag.o];exact Mp.oI fJ Tryz.underlying234 E.o (gL (by omega) L.o) (λe o=>by simp at o) _
 have G6:=Y (show p.grownBy q (some a) by rw[ag.o];exact gS);have C:=Y (Ex.one G6.o);have A6:=Y (show q.heap[a]?=some (.map (fS [] (Zb (m:Int)) (r,0,n,n) 0).toArray (0+1)) by rw[ag.o];exact ic E.o.ltm);have am:j<=a:=by rw[ap.o];exact OJ _
 have X5:=Y (X4.o.later A.o X4.o.lt);have H:k≠a:=by have h1:=X4.o.lt;omega
 have J:=Y (Ex.bx C.o X5.o H);have ao:f≠a:=by
  have⟨_,_,_,_,_,_,_,T4,_⟩:=O.o.2.2;have h1:=T4.bx.lt;omega
 have K:(λb=>(U b\/b=f)\/b=a)=(λb=>U b\/(b=f\/b=a)):=funext λb=>propext or_assoc
 have aO:w<=f:=N1.o.1;have aS:w.heap.size<=j:=V.o.size;have aN:k<w:=HX.o.lt;have M5:=Y (show Mut (λb=>U b\/(b=f\/b=a)) p by rw[<-K];exact(O.o.2.1.later A.o).LH E.o.at_);have V5:=Y (show Nd (λb=>U b\/(b=f\/b=a)) p f n l (m:Int) (c:Int) by rw[<-K];exact(O.o.2.2.wd ((Wd.refl _ _).add am) (.inl (.inr rfl))).later A.o);have Q5:=Y (show BLo (λb=>U b\/(b=f\/b=a)) p (some ⟨r,0,none⟩) n l by rw[<-K];exact(aB.o.wd ((Wd.refl _ _).add am)).ext (Ex.below A.o));have aj:∀b,b=a->U b\/(b=f\/b=a):=λb d=>.inr (.inr d)
 have M6:=Y (M5.o.vJ C.o A6.o);have V6:=Y (V5.o.ext C.o aj ao);have Q6:=Y (Q5.o.ext (C.o.mono (λb _ d=>aj b d)));obtain⟨v,F⟩:∃v:W_,H_ (v=oU q k (.pointer (some ⟨f,0,none⟩)) (.int .i64 (n:Int)) (.int .i64 (m:Int)) (.slice none 0 0) (.slice none 0 0) (.bool false) (.map (some a)) (.int .i64 0) (.int .i64 0) (.int .i64 0) (.slice none 0 0) (.bool false) (.int .i64 0) (.slice none 0 0)):=⟨_,rfl⟩;have G7:=Y (show q.grownBy v (some k) by rw[F.o];exact yI);have B:=Y (Ex.one G7.o);have X7:=Y (show Pbx v k f n (m:Int) none 0 0 none 0 0 false a 0 0 0 none 0 0 false 0 none 0 0 by rw[F.o];exact J.o.oU au.o _ _ _ _ _ _ _ _ _ _ _ _ _ _);have al:∀b,b=k->U b\/(b=f\/b=a):=λb d=>.inl (by rw[d];exact sub _ I)
 have aw:f≠k:=by omega
 have M7:=Y (M6.o.eW B.o X7.o gF);have V7:=Y (V6.o.ext B.o al aw);have Q7:=Y (Q6.o.ext (B.o.mono (λb _ d=>al b d)));have S7:=Y (show Snp (λb=>U b\/(b=f\/b=a)) v a n W ((m:Int)-(([]:List Ep).length:Int)) m from by
  refine⟨fS [] (Zb (m:Int)) (r,0,n,n) 0,0+1,E.o.push (gL (by omega) L.o) (λe o=>by simp at o) _ ((B.o.block a (co.1 A6.o).1 (λe=>H e.symm)).trans A6.o),λe o=>?_,λaq ax aR=>?_⟩
  ·have aL:e=⟨Zb (m:Int),(r,0,n,n),0⟩:=by simpa[fS] using o
   rw[aL];exact⟨m,l,_,n,rfl,OJ _,ak.o,rfl,Q7.o,aH⟩
  ·have hk:aq=m:=by simp at ax;omega
   subst hk;exact⟨⟨Zb (aq:Int),(r,0,n,n),0⟩,by simp[fS],rfl⟩)
 unfold oU at F;have aJ:=J.o.frozen;have h:∀G,G<14->∃aE,q.cell? ⟨k,G,none⟩=some aE:=λG hj=>⟨_,(J.o.cell G).trans (Array.getElem?_eq_getElem (by rw[au.o];exact hj))⟩
 have⟨o0,p0⟩:=h 0 (by omega);have⟨o1,p1⟩:=h 1 (by omega);have⟨o2,p2⟩:=h 2 (by omega);have⟨o3,p3⟩:=h 3 (by omega);have⟨o4,p4⟩:=h 4 (by omega);have⟨o5,p5⟩:=h 5 (by omega);have⟨o6,p6⟩:=h 6 (by omega);have⟨o7,p7⟩:=h 7 (by omega);have⟨o8,p8⟩:=h 8 (by omega);have⟨o9,p9⟩:=h 9 (by omega);have⟨o10,aK⟩:=h 10 (by omega);have⟨o11,aI⟩:=h 11 (by omega);have⟨aQ,az⟩:=h 12 (by omega);have⟨aM,aF⟩:=h 13 (by omega);go_upto_region 10 with fail;go_upto_region 11 with fail;rw[<-F.o];clear D y ad aD aJ p0 p1 p2 p3 p4 p5 p6 p7 p8 p9 aK aI az aF;have aT:(c:Int)+1<=2147483647:=by have h9:=HS.o;omega
 go_wp2_with fail;have Q:=tU (Z:=(λb=>X b\/(b=f\/b=a))) (T:=(λb=>U b\/(b=f\/b=a))) (k:=k) (c:=n) (W:=W) (X:=⟨(m:Int),[],[],false⟩) (u:=v) M7.o (j:=f) (q:=none) (i:=0) (h:=0) (U:=none) (sn:=0) (sc:=0) (m:=a) (qa:=none) (qn:=0) (qc:=0) (ha:=none) (hn:=0) (hc:=0) (d:=m) (D:=0) (F:=0) (y:=0) (z:=0) (R:=false) (t:=(c:Int)) X7.o (M:=l) ak.o V7.o (Buo.nil _ _) S7.o rfl (.inl I) (.inr (.inl rfl)) (.inr (.inr rfl)) (λb d=>by
  rcases d with d|d
  ·exact .inl (sub b d)
  ·exact .inr d) ⟨λe=>aw e.symm,H,ao⟩ (C:=c+1) HS.o L.o
 have hc:((c+1:Nat):Int)=(c:Int)+1:=by push_cast;rfl
 rw[hc] at Q;refine Q.mono ?_;clear Q;rintro e w8 ⟨rfl,N⟩;go_wp2_with fail;have E8:=Y (show Ex X w w8 from((((Ex.below V.o).chain (Ex.below (S:=λ_=>False) A.o) (λ_ _ aA=>aA.elim)).chain C.o (λb d e=>by omega)).chain B.o (λb _ e=>by rw[e];exact I)).chain N.o.ext (λb d e=>by
  rcases e with e|e
  ·exact e
  ·omega))
 exact UM (by simp[results,results123,go_sem]) rfl ⟨rfl,Y ⟨λb=>b=f\/b=a,⟨λb d=>by rcases d with d|d<;>omega,N.o.mu,N.o.pr,E8.o⟩⟩⟩
theorem ux(A:Mut X w)(h1:1<=n)(h2:n<=32):
 C_ prog 113 #[Zb (n:Int)] w λr q=>∃P,r=Zr #[.pointer (some ⟨P,0,none⟩),Zn]/\H_ (∃N:Nat->Prop,(∀b,N b->w.heap.size<=b)/\Mut (λb=>X b\/N b) q/\PrW N (λb=>X b\/N b) q P n [List.replicate n zB] ⟨0,[],[],false⟩ ⟨0,1,0,false,0,0,[],[]⟩)/\H_ (OS w q):=by
 have E:=Y A;clear A;go_enter func113,ntmps113;go_wp2_with fail;refine(rD E h1 h2).mono ?_;rintro r I ⟨g,rfl,j,u⟩;have⟨z,p⟩:=ZX (I.alloc (.cells #[(g,0),n] 219));have L:=bxA p;have d:=beA p;go_upto_region 2 with fail;rw[<-p];have⟨C,Q⟩:=L.pair;go_upto_region 4 with fail;have⟨v,t⟩:=ZX (z.alloc (.cells #[(g,0),n,Zi,Zs,Zs,Zl false,.map none,Zi,Zi,Zi,Zs,Zl false,Zi,Zs] 239));have o:=beA t;have s:=bxA t;have⟨P,h⟩:=ZX z.heap.size;rw[<-h] at s;have F:=Y ((j.later d).later o);have x:=Y (show OS w v from(u.t d).trans (o.mono (OP u.size d.size)));have T:w.heap.size<=P:=by have e:=h.o;have f:=u.size;have i:=d.size;omega
 have S:w<=g:=j.1;have V:P≠g:=by
  have⟨_,_,_,_,_,_,_,H,_⟩:=j.2.2;have f:=H.bx.lt;have e:=h.o;have i:=d.size;omega
 have y:(λb=>(X b\/b=g)\/b=P)=(λb=>X b\/(b=g\/b=P)):=funext λb=>propext or_assoc
 have D:H_ (Mut (λb=>X b\/(b=g\/b=P)) v):=(by rw[<-y];exact F.2.1.add s (eA rfl));have M:=Y (show Nd (λb=>X b\/(b=g\/b=P)) v g n (List.replicate n zB) ((0:Nat):Int) ((0:Nat):Int) by
  rw[<-y];have e:=(j.2.2.later d).wd (S':=λb=>(X b\/b=g)\/b=P) ((Wd.refl _ _).add (by have f:=h.o;omega)) (.inl (.inr rfl));exact e.later o)
 go_upto_region 5 with fail;rw[<-t,<-h];clear C Q;go_wp2_with fail;refine(tS (X:=λb=>b=g\/b=P) (W:=[List.replicate n zB]) D s rfl rfl rfl rfl M (.inr rfl) (λb a=>.inr a) (by omega) (by omega)).mono ?_;rintro r K ⟨rfl,R⟩;go_wp2;have⟨N,e,f,i,O⟩:=R.o;have G:(λb=>(X b\/(b=g\/b=P))\/N b)=(λb=>X b\/((b=g\/b=P)\/N b)):=funext λb=>propext or_assoc
 rw[G] at f i;have J:OS w K:=x.trans ((O.toBelow_of (B:=w) x.size (λb a=>by
  rcases a with a|a<;>omega)))
 exact UM (by simp[results,results113,go_sem]) rfl ⟨P,rfl,⟨λb=>(b=g\/b=P)\/N b,λb a=>by
  rcases a with (a|a)|a
  ·omega
  ·omega
  ·exact OP x.size (e b a),f,i⟩,Y J⟩
end
section
open Go.RowKit Go.ChangeMaps
theorem Tryz.infoBs:(prog.info? 76).map (λi=>(i.zero,i.size,i.bytes))=some (some (.slice none 0 0),1,24):=by kernel_rfl
theorem rT:(zeroValue 76).run prog w=.ok Zs w:=by
 have⟨c,b,a,_⟩:=info_parts Tryz.infoBs;simp[zeroValue,typeInfo,b,a]
theorem oW(h:n≠i)(v:V_):(w.setCell (g,n) v).cell? (g,i)=w.cell? (g,i):=World.cell?_setCell_other _ _ _ _ (λe=>h (by cases e;rfl))
theorem oJ(o:Z.num=(N:Int))(A:Mut X w)(e:Buo X w a g m q c j Z.op Z.se)(p:aY Z n=0)(h1:k<=N)(D:cU Z n (k:Int)=R)(z:x=(bT Z n (k:Int)).num):
 C_ prog 235 #[.agg #[N,(a,g,m),(q,c,j),Zl Z.be],n,k] w λs h=>
  ∃d b f,s=Zr #[.agg #[x,.slice d b f],Zl R,Zn]/\H_ (PLo X h d b (bT Z n (k:Int)).aR)/\H_ (OS w h):=by
 have l:=FR (x:=Z.num) (c:=m) (T:=Z.be) (y:=n) (t:=(k:Int)) e.op.1 e.se.el (gI p) e.sc;rw[o] at l;apply l.mono;rintro s h ⟨d,b,f,rfl,h2,C⟩;have r:(⟨(N:Int),Z.op,Z.se,Z.be⟩:Bu)=Z:=by rw[<-o]
 rw[r] at h2;rw[r,D,<-z,rF (k:=(k:Int)) p (by omega)];exact⟨d,b,f,rfl,⟨h2.1,λ_ B u hs=>by have F:=h2.2 B u;have E:=A.lt _ hs;omega⟩,C⟩
theorem up6{A:List Pt}{hc:Nat}(XV:H_ (PrX X U z k n W Z V g p b B Q M L m P K J O I hc))(T:H_ (Bx z c #[x,N,Zs] 334))(RV:H_ (Bx z w #[Zi,Zi,Zs] 334))(FV:H_ (OS w z))(ap:w<c)(_:¬c=k)(PV:H_ (PL z a j A))(QV:H_ (BL z q n l))(ai:j<=1000)(ao:1<=n)(am:n<=32)(af:H_ (cF V.had=0))(ag:H_ (gP n A=0)){Pc Pd Pe Pf Pg Ph Pj Pl Pm Pn Po Pp Pq Ps Pu Pv Pw Px Py Pz PE PG PH PI PJ PK PM PO PQ PR PS PT PU PX PY PZ P9 Qa Qb Qc Qd Qe Qf Qg Qh Qi Qj Qk Ql Qm Qn Qo Qp Qq Qr Qs Qt Qu Qv Qw Qx Qy Qz QA QC QE QF QG QH QI:V_}:
 aA Tryz.f213 (λD w'=>∃t qn s,D=Zr #[.agg #[x,N,.slice t qn s],Zn]/\H_ (dA w' w (.slice t qn s) (pks l V.had A))/\H_ (OS w w')) 6 ⟨#[(k,0),v,(w,0),Zn,(c,0),u,r,o,(a,j,i),(q,n,h),f,e,d,Pc,Pd,Pe,Pf,Pg,Ph,Pj,Pl,Pm,Pn,Po,Pp,Pq,Ps,Pu,Pv,Pw,Px,Py,Pz,PE,PG,PH,PI,PJ,PK,PM,PO,PQ,PR,PS,PT,PU,PX,PY,PZ,P9,Qa,Qb,Qc,Qd,Qe,Qf,Qg,Qh,Qi,Qj,Qk,Ql,Qm,Qn,Qo,Qp,Qq,Qr,Qs,Qt,Qu,Qv,Qw,Qx,Qy,Qz,QA,QC,QE,QF,QG,QH,QI],[]⟩ z:=by
 refine aj rfl ?_;intro ad hK;have⟨H,G,E⟩:=T.three;have kz:=T.frozen;have ah:=XV.bx.cells.2.2.2.2.2.2.2.2.2.2.2.2.2;go_wp2_with fail;refine(pB i h PV QV XV.r.hd.1 XV.r.hc (by omega) ai (by unfold gW;rw[UX (by omega)];exact af) ag).mono ?_;rintro D w8 ⟨t,s,rfl,Q8,E8⟩;have⟨y,ab⟩:=ZX ((pks l V.had A).length);rw[<-ab] at Q8;rw[<-ab];have F:=Y (T.later E8 T.lt);have R8:=Y (RV.later E8 RV.lt);have F8:=Y (FV.t E8);clear H G E kz ah;have⟨H,G,E⟩:=F.three;have kz:=F.frozen;have⟨C,S⟩:=ZX (w8.setCell (c,2) (.slice t y s));have G9:H_ (w8.grownBy C (some c)):=(by rw[S];exact ak (au _) _ _);have K9:H_ (Bx C c #[x,N,.slice t y s] 334):=(by rw[S];exact F.set 2 _);have R:=Y (R8.grow G9 (λD=>by have h9:=OG D;omega));have Q9:=Y (show dA C w (.slice t y s) (pks l V.had A) by
  rw[S];exact aB (World.ownsRow.mono Q8 FV.size) (aU Q8 F (by decide)))
 have F9:=Y (aM F8 G9 (by omega));go_upto_region 9 with fail;rw[<-S];go_wp2;clear H G E kz;refine Met.intro (bg (c:=.seq _ .ret) rfl ?_);try clear hK ad
 have⟨H,G,E⟩:=K9.three;have⟨r0,r1,r2⟩:=R.three;have rz:=R.frozen;have al:¬c=w:=by omega
 have an:¬w=c:=by omega
 go_wp2;have XF:=Y (R.aN (Zb x) (Zb (N:Int)) (.slice t y s));have n9:=aU Q9 R (by decide);have OF:H_ (dA (cP C w (Zb x) (Zb (N:Int)) (.slice t y s)) w (.slice t y s) (pks l V.had A)):=aB (aB (aB Q9 n9) n9) n9;have⟨t0,t1,t2⟩:=XF.three;exact UM (by simp[results,results213,go_sem,t0,t1,t2]) rfl ⟨t,y,s,rfl,OF,(aK F9 (OJ _))⟩
theorem uD(hm:Mut U w)(hp:PrW X U w g n W Z V)(aG:N=V.ar)(B:aY Z n=0)(hg:V.goal<=V.ar)(hh:(V.ar:Int)<=2147483647)(aH:cU Z n (V.goal:Int)=true)(hx:W[V.goal]?=l)(hy:W[V.ar]?=s)(aD:l.length=n)(aK:s.length=n)(aI:cF V.had=0):
 C_ prog 213 #[(g,0)] w λC d=>∃qa qn qc,C=Zr #[.agg #[V.goal,N,.slice qa qn qc],Zn]/\H_ (dA d w (.slice qa qn qc) (pks l V.had (bT Z n (V.goal:Int)).aR))/\H_ (OS w d):=by
 have⟨bs,oa,on,oc,sa,sn,sc,aB,bp,bk,bo,ha,hn,hc,T⟩:=hp;have hN:=Y aG;have ad:=Y (show Z.num=(N:Int) by rw[T.r.num,hN]);have HG:H_ (V.goal<=N):=(by rw[hN];exact hg);have bh:(N:Int)<=2147483647:=by rw[hN];exact hh
 have a7:(V.goal:Int)<=2147483647:=by omega
 have⟨EN,aL⟩:=ZX ((bT Z n (V.goal:Int)).num);have⟨H,av⟩:=ZX (w.alloc (.cells #[Zi,Zi,Zs] 334));have R0:=bxA av;have D0:=beA av;have al:=Y (T.later D0);have aW:=Y (hm.later D0);have ab:=Y B;have ag:=Y aH;have aZ:=Y hx;have bq:=Y hy;have bi:=Y aD;have bg:=Y aK;have a1:=Y aI;have a8:n<=32:=by have o:=(cb B).1;omega
 have ba:1<=n:=by have o:=(cb B).1;omega
 have⟨a,ap⟩:=ZX ((H.alloc (.cells #[V.goal,N,Zs] 334)).drew);have F:H_ (OS H a):=(by rw[ap];exact(af).drew);have⟨ub,ah⟩:=ZX H.heap.size;have K1:H_ (Bx a ub #[V.goal,N,Zs] 334):=(by rw[ap,ah];exact Bx.dC H _ _);have Q:=Y (al.later F);have ai:=Y (aW.later F);have aN:g<H:=Bx.lt al.bx;have br:g<a:=Bx.lt Q.bx;have NE:=Y T.ne;have bj:=Y T;have⟨I,u,f,t,r,v,D,x7,O,L,S,P,i,J⟩:=al.bx.cells;rw[ad] at f;clear T hm B aH hx hy aD aK aI I u t r v D x7 O L S P J aG;go_enter func213,ntmps213;change aA Tryz.f213 _ 0 _ w;refine aj rfl ?_;intro K k;go_wp2;rw[<-av];refine Met.intro (aj rfl ?_);try clear k K
 intro K k;go_region_held3 (λd=>d.cell? (g,2)=Zb (N:Int)/\d.cell? (g,12)=Zb (V.goal:Int))
  (first|((try simp only[an,aq aN]);with_reducible exact⟨f,i⟩))
  (first|(go_at_call 128;(with_reducible refine(fD g (y:=(N:Int)) (by first|exact f|(simp only[an];exact f)|(simp only[an,aq aN];exact f))).mono ?_);rintro C wz ⟨rfl,hz⟩;obtain rfl:=hz.symm;clear hz))
 all_goals
  rw[<-ap,<-ah];clear f i;have⟨I,u,f,t,r,v,D,x7,O,L,S,P,i,J⟩:=Q.bx.cells;rw[ad] at f;clear I D x7 O L S P J;go_wp2;refine Met.intro (aj rfl ?_);try clear k K
  intro K k;have UB:H_ (Buo U a.drew oa on oc sa sn sc Z.op Z.se):=Q.r.bu.ext (Ex.below (ce _ _).drew);have UA:=Y (show Buo (λZ=>U Z\/Z=a) (a.alloc (.cells #[Zi,Zs] 299)).drew oa on oc sa sn sc Z.op Z.se from(Q.r.bu.wd ((Wd.refl U a).add (OJ _))).ext (Ex.below (af).drew));have e:g<a:=(by assumption);have a4:¬a=g:=by omega
  have DA:=Y (show OS a (a.alloc (.cells #[Zi,Zs] 299)).drew from(af).drew);have DB:=Y (show OS a a.drew from(ce _ _).drew);have XA:H_ (Bx (a.alloc (.cells #[Zi,Zs] 299)).drew a #[Zi,Zs] 299):=Bx.dC a _ _;have bn:¬U a:=λhs=>by have:=ai.lt _ hs;omega
  have MA:=Y (show Mut (λZ=>U Z\/Z=a) (a.alloc (.cells #[Zi,Zs] 299)).drew from(ai.later DA).add XA (eA rfl));have MB:=Y (ai.later DB);have WA:=Y (show Wd U (λZ=>U Z\/Z=a) a from(Wd.refl U a).add (OJ _));go_region_held3 (λd=>d.cell? (g,1)=Zb (n:Int)/\d.cell? (g,2)=Zb (N:Int)/\d.cell? (g,3)=(oa,on,oc)/\d.cell? (g,4)=(sa,sn,sc)/\d.cell? (g,5)=Zl Z.be/\d.cell? (g,12)=Zb (V.goal:Int))
   (first|((try simp only[an,aq e]);with_reducible exact⟨u,f,t,r,v,i⟩)|((try simp only[aq aE,aw a4]);with_reducible exact⟨ar,ax,az,am,ao,ay⟩))
   (first|(go_at_call 235;(with_reducible refine(oJ ad.o MB.o UB.o ab.o HG.o ag.o aL.o).mono ?_);rintro C h ⟨m,p,x,rfl,U2,E2⟩;have b:=Y (DB.t E2);have ar:=(b.cell (p:=(g,1)) e).trans u;have ax:=(b.cell (p:=(g,2)) e).trans f;have az:=(b.cell (p:=(g,3)) e).trans t;have am:=(b.cell (p:=(g,4)) e).trans r;have ao:=(b.cell (p:=(g,5)) e).trans v;have ay:=(b.cell (p:=(g,12)) e).trans i;have aE:g<h:=OE e b.size)|(go_at_call 235;(with_reducible refine(oJ ad.o MA.o UA.o ab.o HG.o ag.o aL.o).mono ?_);rintro C h ⟨m,p,x,rfl,U2,E2⟩;have b:=Y (DA.t E2);have ar:=(b.cell (p:=(g,1)) e).trans u;have ax:=(b.cell (p:=(g,2)) e).trans f;have az:=(b.cell (p:=(g,3)) e).trans t;have am:=(b.cell (p:=(g,4)) e).trans r;have ao:=(b.cell (p:=(g,5)) e).trans v;have ay:=(b.cell (p:=(g,12)) e).trans i;have aE:g<h:=OE e b.size;have X2:=Y (XA.later E2 XA.lt);have aS:h.cell? a=Zb 0:=X2.cell 0;have aR:h.cell? (a,1)=Zs:=X2.cell 1;have zz:=X2.frozen))
  all_goals
   first
    |(have⟨c,y⟩:=ZX (h.alloc (.cells #[EN,(m,p,x)] 299))
      have⟨A,z⟩:=ZX h.heap.size
      have X3:H_ (Bx c A #[EN,(m,p,x)] 299):=(by rw[y,z];exact Bx.new h _ _);have F3:=beA y;have G:=Y (b.t F3);have M:H_ (PLo U c m p (bT Z n (V.goal:Int)).aR):=U2.ext (Ex.below F3);have aT:a<=A:=by rw[z];exact b.size
      rw[<-y,<-z])
    |(have⟨c,y⟩:=ZX (((h.setCell a (Zb EN)).setCell (a,1) (m,p,x)))
      have⟨A,z⟩:=ZX a.heap.size
      have M:H_ (h.grownBy c (some a)):=(by rw[y];exact ak (ak (au _) _ _) _ _);have X3:H_ (Bx c A #[EN,(m,p,x)] 299):=(by rw[y,z];exact(X2.set 0 _).set 1 _);have G:=Y (aM b M (OJ _));have Z3:H_ (Ex (λZ=>Z=a) h c):=Ex.one M;have M:=Y (show PLo U c m p (bT Z n (V.goal:Int)).aR from(U2.ext (Z3.mono (λZ _ B=>.inr B))).wd (λZ _ hs=>.inl hs));have aT:a<=A:=by rw[z];exact OJ _
      rw[<-y,<-z])
   clear u f t r v i ar ax az am ao ay;try clear aS aR zz
   go_wp2;refine Met.intro (aj rfl ?_);try clear k K
   intro K k;go_wp2;refine Met.intro (aj rfl ?_);try clear k K
   intro K k;have X4:=Y (Q.later G);have M4:=Y (ai.later G);have K4:=Y (K1.later G K1.lt);have R4:=Y ((R0.later F R0.lt).later G (OE R0.lt F.size));have a5:=Y (show OS w c from(D0.t F).trans (G.mono (OP D0.size F.size)));have⟨es,ck,aF,aJ,aC⟩:=X4.r.mp;have a2:=Y aJ;have a9:=Y aF;have bb:=Y aC;clear aF aJ aC;have aQ:=Y (show OS c c.drew from(ce _ _).drew);obtain⟨ea,ec,a6,bc⟩:∃ea ec,(Instr.lookup 234 (.map (some aB)) (Zb (V.goal:Int)) false).run prog c.drew=.ok (.slice ea n ec) c.drew/\H_ (BL c ea n l):=by
    have bf:Z.num-(Z.se.length:Int)<=(V.goal:Int):=(yJ ab (by omega) (by have o:=ad.o;have h8:=HG.o;omega)).1 ag;have⟨C,he,aO⟩:=bb V.goal bf (by have o:=hN.o;have h8:=HG.o;omega);have⟨bm,hi⟩:=Tv he;have⟨aU,bl,a3,a0,h1,h2,h3,h4,h5,h6⟩:=a2 C he;have be:aU=V.goal:=by
     rw[aO] at h1;injection h1 with _ h1;omega
    subst be;rw[aZ] at h3;cases h3
    have o:=Mp.lookup fJ Tryz.underlying234 (a9.later aQ) (gL (by omega) a7) hi aO false;rw[h4] at o;exact⟨a3,a0,o,Y h5.1⟩
   have⟨I,u,f,t,r,v,D,x7,O,L,S,P,i,J⟩:=X4.bx.cells;have e1:c.cell? (A,1)=(m,p,x):=X3.cell 1;clear I u f t r v x7 O L S P J;go_region_held3 (λd=>d.cell? (g,6)=some (.map (some aB))/\d.cell? (g,12)=Zb (V.goal:Int)/\d.cell? (A,1)=(m,p,x))
    (first|((try simp only[an]);with_reducible exact⟨D,i,e1⟩))
    (fail)
   all_goals
    have⟨W5,aP⟩:=ZX c.drew;rw[<-aP];have E:H_ (OS c W5):=(by rw[aP];exact aQ);have X5:=Y (X4.later E);have K5:=Y (K4.later E K4.lt);have R5:=Y (R4.later E R4.lt);have U5:=Y (M.1.later E);have F5:=Y (a5.t E);clear D i e1 a6;go_wp2;refine Met.intro (aj rfl ?_);try clear k K
    intro K k;have aX:¬ub=g:=by have o:=ah.o;omega
    have bd:w<ub:=by have o:=ah.o;have h8:=R0.lt;omega
    have aV:=Y (bc.later E);go_wp2;exact Met.intro (up6 X5 K5 R5 F5 bd aX U5 aV (by have o:=FP ab ag;have h8:=U5.1;omega) ba a8 a1 (qm (np ab ag)))
end
section
open Go.RowKit Go.ChangeMaps
theorem uE(hm:Mut U w)(hp:PrW X U w g n W Z V)(a1:N=V.ar)(y:aY Z n=0)(hg:V.goal<=V.ar)(hh:(V.ar:Int)<=2147483647)(a2:cU Z n (V.goal:Int)=false)(hx:W[V.goal]?=l)(hy:W[V.ar]?=s)(aU:l.length=n)(a9:s.length=n)(a3:cF V.had=0):
 C_ prog 213 #[(g,0)] w λo e=>∃qa qn qc,o=Zr #[.agg #[Zb 0,Zb (N:Int),.slice qa qn qc],Zn]/\H_ (dA e w (.slice qa qn qc) (pks (List.replicate n zB) V.had (bM s)))/\H_ (OS w e):=by
 have⟨bU,oa,on,oc,sa,sn,sc,aF,bR,bK,bP,ha,hn,hc,ar⟩:=hp;have hN:=Y a1;have az:=Y (show Z.num=(N:Int) by rw[ar.r.num,hN.o]);have HG:=Y (show V.goal<=N by rw[hN.o];exact hg);have bp:(N:Int)<=2147483647:=by rw[hN.o];exact hh
 have bd:(V.goal:Int)<=2147483647:=by omega
 obtain⟨EN,ba⟩:∃EN:Int,H_ (EN=(bT Z n (V.goal:Int)).num):=⟨_,rfl⟩;obtain⟨O,aP⟩:∃O:W_,H_ (O=w.alloc (.cells #[Zb 0,Zb 0,Zs] 334)):=⟨_,rfl⟩;have R0:=bxA aP;have D0:=beA aP;have aN:=Y (ar.later D0.o);have bs:=Y (hm.later D0.o);have a0:=Y y;have bk:=Y a2;have bO:=Y hx;have bC:=Y hy;have bH:=Y aU;have bl:=Y a9;have a5:=Y a3;have bf:n<=32:=by have t:=(cb y).1;omega
 have bg:1<=n:=by have t:=(cb y).1;omega
 obtain⟨a,aO⟩:∃a:W_,H_ (a=(O.alloc (.cells #[Zb (V.goal:Int),Zb (N:Int),Zs] 334)).drew):=⟨_,rfl⟩;have D1:=Y (show OS O a by rw[aO.o];exact(af).drew);obtain⟨b,aG⟩:∃b:Nat,H_ (b=O):=⟨_,rfl⟩;have K1:=Y (show Bx a b #[Zb (V.goal:Int),Zb (N:Int),Zs] 334 by rw[aO.o,aG.o];exact Bx.dC O _ _);have HX:=Y (aN.o.later D1.o);have aI:=Y (bs.o.later D1.o);have bc:g<O:=Bx.lt aN.o.bx;have bS:g<a:=Bx.lt HX.o.bx;have NE:=Y ar.ne;have aW:=Y ar;have⟨P,p,f,A,x,D,u,x7,T,S,ad,ab,k,Q⟩:=aN.o.bx.cells;rw[az.o] at f;clear ar hm y a2 hx hy aU a9 a3 P p A x D u x7 T S ad ab Q a1;go_enter func213,ntmps213;change aA Tryz.f213 _ 0 _ w;apply aj rfl;intro K F;go_wp2;rw[<-aP.o];refine Met.intro (aj rfl ?_);try clear F K
 intro K F;go_region_held3 (λe=>e.cell? ⟨g,2,none⟩=Zb (N:Int)/\e.cell? ⟨g,12,none⟩=Zb (V.goal:Int))
  (first
    |with_reducible exact⟨f,k⟩
    |(simp only[an];with_reducible exact⟨f,k⟩)
    |(simp only[an,aq bc];with_reducible exact⟨f,k⟩))
  (first
    |(go_at_call 128;(with_reducible refine(fD g (y:=(N:Int)) (by first|exact f|(simp only[an];exact f)|(simp only[an,aq bc];exact f))).mono ?_);rintro o wz ⟨rfl,hz⟩;obtain rfl:=hz.symm;clear hz))
 all_goals
  rw[<-aO.o,<-aG.o];clear f k;have⟨P,p,f,A,x,D,u,x7,T,S,ad,ab,k,Q⟩:=HX.o.bx.cells;rw[az.o] at f;clear P u x7 T S ad ab Q;go_wp2;refine Met.intro (aj rfl ?_);try clear F K
  intro K F;have UB:=Y (show Buo U a.drew oa on oc sa sn sc Z.op Z.se from HX.o.r.bu.ext (Ex.below (ce _ _).drew));have UA:=Y (show Buo (λZ=>U Z\/Z=a) (a.alloc (.cells #[Zb 0,Zs] 299)).drew oa on oc sa sn sc Z.op Z.se from(HX.o.r.bu.wd ((Wd.refl U a).add (OJ _))).ext (Ex.below (af).drew));have r:g<a:=(by assumption);have bA:¬a=g:=by omega
  have DA:=Y (show OS a (a.alloc (.cells #[Zb 0,Zs] 299)).drew from(af).drew);have DB:=Y (show OS a a.drew from(ce _ _).drew);have XA:=Y (show Bx (a.alloc (.cells #[Zb 0,Zs] 299)).drew a #[Zb 0,Zs] 299 from Bx.dC a _ _);have bN:¬U a:=λhs=>by have:=aI.o.lt _ hs;omega
  have MA:=Y (show Mut (λZ=>U Z\/Z=a) (a.alloc (.cells #[Zb 0,Zs] 299)).drew from(aI.o.later DA.o).add XA.o (eA rfl));have MB:=Y (aI.o.later DB.o);have WA:=Y (show Wd U (λZ=>U Z\/Z=a) a from(Wd.refl U a).add (OJ _));go_region_held3 (λe=>e.cell? ⟨g,1,none⟩=Zb (n:Int)/\e.cell? ⟨g,2,none⟩=Zb (N:Int)/\e.cell? ⟨g,3,none⟩=(oa,on,oc)/\e.cell? ⟨g,4,none⟩=(sa,sn,sc)/\e.cell? ⟨g,5,none⟩=Zl Z.be/\e.cell? ⟨g,12,none⟩=Zb (V.goal:Int))
   (first
     |with_reducible exact⟨p,f,A,x,D,k⟩
     |(simp only[an];with_reducible exact⟨p,f,A,x,D,k⟩)
     |with_reducible exact⟨av,ax,aD,am,ap,aB⟩
     |(simp only[an,aq r];with_reducible exact⟨p,f,A,x,D,k⟩)
     |(simp only[aq aX];with_reducible exact⟨av,ax,aD,am,ap,aB⟩)
     |(simp only[aw bA];with_reducible exact⟨av,ax,aD,am,ap,aB⟩))
   (first
     |(go_at_call 235;(with_reducible refine(oJ az.o MB.o UB.o a0.o HG.o bk.o ba.o).mono ?_);rintro o v ⟨H,I,pk,rfl,U2,E2⟩;have h:=Y (show OS a v from DB.o.trans (E2.o.mono DB.o.size));have av:=(h.o.cell (p:=⟨g,1,none⟩) r).trans p;have ax:=(h.o.cell (p:=⟨g,2,none⟩) r).trans f;have aD:=(h.o.cell (p:=⟨g,3,none⟩) r).trans A;have am:=(h.o.cell (p:=⟨g,4,none⟩) r).trans x;have ap:=(h.o.cell (p:=⟨g,5,none⟩) r).trans D;have aB:=(h.o.cell (p:=⟨g,12,none⟩) r).trans k;have aX:g<v:=OE r h.o.size)
     |(go_at_call 235;(with_reducible refine(oJ az.o MA.o UA.o a0.o HG.o bk.o ba.o).mono ?_);rintro o v ⟨H,I,pk,rfl,U2,E2⟩;have h:=Y (show OS a v from DA.o.trans (E2.o.mono DA.o.size));have av:=(h.o.cell (p:=⟨g,1,none⟩) r).trans p;have ax:=(h.o.cell (p:=⟨g,2,none⟩) r).trans f;have aD:=(h.o.cell (p:=⟨g,3,none⟩) r).trans A;have am:=(h.o.cell (p:=⟨g,4,none⟩) r).trans x;have ap:=(h.o.cell (p:=⟨g,5,none⟩) r).trans D;have aB:=(h.o.cell (p:=⟨g,12,none⟩) r).trans k;have aX:g<v:=OE r h.o.size;have X2:=Y (XA.o.later E2.o XA.o.lt);have bn:v.cell? ⟨a,0,none⟩=Zb 0:=X2.o.cell 0;have bm:v.cell? ⟨a,1,none⟩=Zs:=X2.o.cell 1;have zz:=X2.o.frozen))
  all_goals
   first
    |(obtain⟨d,ag⟩:∃d:W_,H_ (d=v.alloc (.cells #[Zb EN,(H,I,pk)] 299)):=⟨_,rfl⟩
      obtain⟨E,ah⟩:∃E:Nat,H_ (E=v):=⟨_,rfl⟩
      have X3:=Y (show Bx d E #[Zb EN,(H,I,pk)] 299 by rw[ag.o,ah.o];exact Bx.new v _ _);have F3:=beA ag;have D3:=Y (show OS a d from h.o.trans (F3.o.mono h.o.size));have U3:=Y (show PLo U d H I (bT Z n (V.goal:Int)).aR from U2.o.ext (Ex.below F3.o));have bo:a<=E:=by rw[ah.o];exact h.o.size
      rw[<-ag.o,<-ah.o])
    |(obtain⟨d,ag⟩:∃d:W_,H_ (d=((v.setCell ⟨a,0,none⟩ (Zb EN)).setCell ⟨a,1,none⟩ (H,I,pk))):=⟨_,rfl⟩
      obtain⟨E,ah⟩:∃E:Nat,H_ (E=a):=⟨_,rfl⟩
      have U3:=Y (show v.grownBy d (some a) by rw[ag.o];exact ak (ak (au _) _ _) _ _);have X3:=Y (show Bx d E #[Zb EN,(H,I,pk)] 299 by rw[ag.o,ah.o];exact(X2.o.set 0 _).set 1 _);have D3:=Y (show OS a d from aM h.o U3.o (OJ _));have Z3:=Y (show Ex (λZ=>Z=a) v d from Ex.one U3.o);have U3:=Y (show PLo U d H I (bT Z n (V.goal:Int)).aR from(U2.o.ext (Z3.o.mono (λZ _ y=>.inr y))).wd (λZ _ hs=>.inl hs));have bo:a<=E:=by rw[ah.o];exact OJ _
      rw[<-ag.o,<-ah.o])
   clear p f A x D k av ax aD am ap aB;try clear bn bm zz
   go_wp2;refine Met.intro (aj rfl ?_);try clear F K
   intro K F;go_wp2;refine Met.intro (aj rfl ?_);try clear F K
   intro K F;have X4:=Y (HX.o.later D3.o);have M4:=Y (aI.o.later D3.o);have K4:=Y (K1.o.later D3.o K1.o.lt);have R4:=Y ((R0.o.later D1.o R0.o.lt).later D3.o (OE R0.o.lt D1.o.size));have bb:=Y (show OS w d from(D0.o.trans (D1.o.mono D0.o.size)).trans (D3.o.mono (OP D0.o.size D1.o.size)));have⟨es,ck,aZ,a4,aS⟩:=X4.o.r.mp;have bx:=Y a4;have aQ:=Y aZ;have bE:=Y aS;clear aZ a4 aS;have aR:=Y (show OS d d.drew from(ce _ _).drew);obtain⟨ev,bB⟩:∃ev,(Instr.lookup 234 (.map (some aF)) (Zb (V.goal:Int)) false).run prog d.drew=.ok ev d.drew:=by
    by_cases be:∃o∈es,o.key=Zb (V.goal:Int)
    ·have⟨o,he,aK⟩:=be;have⟨bu,hi⟩:=Tv he;exact⟨_,Mp.lookup fJ Tryz.underlying234 (aQ.o.later aR.o) (gL (by omega) bd) hi aK false⟩
    ·exact⟨_,Mp.tH fJ Tryz.underlying234 (aQ.o.later aR.o) (gL (by omega) bd) (λo he t=>be ⟨o,he,t⟩) (z:=Zs) (rT) false⟩
   have⟨P,p,f,A,x,D,u,x7,T,S,ad,ab,k,Q⟩:=X4.o.bx.cells;have e1:d.cell? ⟨E,1,none⟩=(H,I,pk):=X3.o.cell 1;clear P p f A x D x7 T S ad ab Q;go_region_held3 (λe=>e.cell? ⟨g,6,none⟩=some (.map (some aF))/\e.cell? ⟨g,12,none⟩=Zb (V.goal:Int)/\e.cell? ⟨E,1,none⟩=(H,I,pk))
    (first
      |with_reducible exact⟨u,k,e1⟩
      |(simp only[an];with_reducible exact⟨u,k,e1⟩))
    (fail)
   all_goals
    obtain⟨c,bi⟩:∃c:W_,H_ (c=d.drew):=⟨_,rfl⟩;rw[<-bi.o];have M:=Y (show OS d c by rw[bi.o];exact aR.o);have X5:=Y (X4.o.later M.o);have L:=Y (K4.o.later M.o K4.o.lt);have R5:=Y (R4.o.later M.o R4.o.lt);have U5:=Y (U3.o.1.later M.o);have F5:=Y (show OS w c from bb.o.trans (M.o.mono bb.o.size));clear u k e1 bB;go_wp2;refine Met.intro (aj rfl ?_);try clear F K
    intro K F;have aH:¬b=g:=by have t:=aG.o;omega
    have bj:w<b:=by have t:=aG.o;have h8:=R0.o.lt;omega
    have⟨al,hC,HC⟩:=ia n (by omega);obtain⟨ea,ec,bh,a8⟩:∃ea ec,H_ (BL c ea n s)/\H_ (∀m:W_,OS c m->(Instr.lookup 234 (.map (some aF)) (Zb (N:Int)) false).run prog m=.ok (.slice ea n ec) m):=by
     have⟨o,he,aK⟩:=bE.o V.ar (by have t:=az.o;have h8:=hN.o;omega) (OJ _);have⟨bu,hi⟩:=Tv he;have⟨aV,bL,bz,bv,h1,h2,h3,h4,h5,h6⟩:=bx.o o he;have bG:aV=V.ar:=by
      rw[aK] at h1;injection h1 with _ h1;omega
     subst bG;rw[bC.o] at h3;cases h3
     refine⟨bz,bv,Y (h5.1.later M.o),Y (λm G=>?_)⟩;have t:=Mp.lookup fJ Tryz.underlying234 ((aQ.o.later M.o).later G) (gL (k:=(N:Int)) (by omega) bp) hi (by rw[aK,hN.o]) false;rw[h4] at t;exact t
    have⟨P,p,f,A,x,D,u,x7,T,S,ad,ab,k,Q⟩:=X5.o.bx.cells;clear P f A x D x7 T S ad ab k Q;have⟨k0,k1,k2⟩:=L.o.three;have kz:=L.o.frozen;have ai:g<c:=Bx.lt X5.o.bx;have bw:b<c:=L.o.lt;have ao:=Y (show OS c c.drew from(ce _ _).drew);have aC:=Y (show OS c (c.alloc (.cells al 65)).drew from(af).drew);have bI:=a8.o c.drew ao.o;have bQ:=a8.o (c.alloc (.cells al 65)).drew aC.o;have bF:=Y (bh.o.later ao.o);have bD:=Y (bh.o.later aC.o);have MU:=Y (show Mut (λZ=>U Z\/Z=b) c from(M4.o.later M.o).add L.o (eA rfl));have CA:=Y (((ay.blo (HC.o c c (OJ _)) MU.o (OJ _)).1).ext (Ex.below (show Below (c.alloc (.cells al 65)).heap.size (c.alloc (.cells al 65)) (c.alloc (.cells al 65)).drew from(ce _ _).drew)));obtain⟨f6,bJ⟩:∃f6:Nat,H_ (f6=c):=⟨_,rfl⟩;go_upto_region 7 with fail;go_region_held3 (λe=>e.cell? ⟨g,6,none⟩=some (.map (some aF))/\e.cell? ⟨g,1,none⟩=Zb (n:Int)/\e.cell? ⟨b,1,none⟩=Zb (N:Int))
     (first
       |with_reducible exact⟨u,p,k1⟩
       |(simp only[an];with_reducible exact⟨u,p,k1⟩)
       |with_reducible exact⟨y6,y1,aE⟩
       |(simp only[an,aq ai,aq bw];with_reducible exact⟨u,p,k1⟩)
       |(simp only[aq aJ,aq aL];with_reducible exact⟨y6,y1,aE⟩)
       |(simp only[aw aH,oW (show(0:Nat)≠1 by decide)];with_reducible exact⟨y6,y1,aE⟩)
       |(simp only[aq a7,aq aT,aw aH,oW (show(0:Nat)≠1 by decide)];with_reducible exact⟨y6,y1,aE⟩))
     (first
       |(go_at_call 236;(with_reducible refine(lC ec bF.o (by omega)).mono ?_);rintro o i ⟨a6,c6,rfl,P6,E6⟩;have P7:=Y (bt.plo P6.o MU.o ao.o.size).1;have B:=Y (show OS c i from ao.o.trans (E6.o.mono ao.o.size));have y6:=(B.o.cell (p:=⟨g,6,none⟩) ai).trans u;have y1:=(B.o.cell (p:=⟨g,1,none⟩) ai).trans p;have C:=Y (L.o.later B.o L.o.lt);have aE:i.cell? ⟨b,1,none⟩=Zb (N:Int):=C.o.cell 1;have bq:i.cell? ⟨b,0,none⟩=Zb (V.goal:Int):=C.o.cell 0;have br:=C.o.frozen;have aJ:=OE ai B.o.size;have aL:=C.o.lt;have a7:g<(i.setCell ⟨b,0,none⟩ (Zb 0)).heap.size:=(by simpa using aJ);have aT:b<(i.setCell ⟨b,0,none⟩ (Zb 0)).heap.size:=(by simpa using aL))
       |(go_at_call 236;(with_reducible refine(lC ec bD.o (by omega)).mono ?_);rintro o i ⟨a6,c6,rfl,P6,E6⟩;have P7:=Y (bt.plo P6.o MU.o aC.o.size).1;have Q7:=Y (CA.o.ext (Ex.below E6.o));have B:=Y (show OS c i from aC.o.trans (E6.o.mono aC.o.size));have y6:=(B.o.cell (p:=⟨g,6,none⟩) ai).trans u;have y1:=(B.o.cell (p:=⟨g,1,none⟩) ai).trans p;have C:=Y (L.o.later B.o L.o.lt);have aE:i.cell? ⟨b,1,none⟩=Zb (N:Int):=C.o.cell 1;have bq:i.cell? ⟨b,0,none⟩=Zb (V.goal:Int):=C.o.cell 0;have br:=C.o.frozen;have aJ:=OE ai B.o.size;have aL:=C.o.lt;have a7:g<(i.setCell ⟨b,0,none⟩ (Zb 0)).heap.size:=(by simpa using aJ);have aT:b<(i.setCell ⟨b,0,none⟩ (Zb 0)).heap.size:=(by simpa using aL)))
    all_goals
     have RZ:=Y (show gP n (bM s)=0 by rw[<-bl.o];exact qm (kL s));have R6:=Y (R5.o.later B.o R5.o.lt);have F6:=Y (show OS w i from F5.o.trans (B.o.mono F5.o.size));go_wp2;first
      |(obtain⟨m,G⟩:∃m:W_,H_ (m=(i.setCell ⟨b,0,none⟩ (Zb 0)).alloc (.cells al 65)):=⟨_,rfl⟩
        rw[<-G.o];have J:=Y (show i.grownBy m (some b) by rw[G.o];exact rn (ak (au _) _ _));have K7:=Y (show Bx m b #[Zb 0,Zb (N:Int),Zs] 334 by rw[G.o];exact(C.o.set 0 _).later (af) (by simpa using C.o.lt));have Q7:=Y (show BLo (λZ=>U Z\/Z=b) m (some ⟨i,0,none⟩) n (List.replicate n zB) by
         rw[G.o];have t:=HC.o (i.setCell ⟨b,0,none⟩ (Zb 0)) c (by simpa using B.o.size);simp only[World.size_setCell] at t;exact(ay.blo t MU.o (OJ _)).1)
        have F7:=Y (show OS w m from aM F6.o J.o (by omega));exact Met.intro (up6 (Y (aW.o.later F7.o)) K7 (Y (R6.o.grow J.o (λo=>by have t:=OG o;omega))) F7 bj aH (Y (P7.o.ext ((Ex.one J.o).mono (λZ _ y=>.inr y))).1) (Y Q7.o.1) (by omega) bg bf a5 RZ))
      |(obtain⟨m,G⟩:∃m:W_,H_ (m=i.setCell ⟨b,0,none⟩ (Zb 0)):=⟨_,rfl⟩
        rw[<-G.o];have J:=Y (show i.grownBy m (some b) by rw[G.o];exact ak (au _) _ _);have K7:=Y (show Bx m b #[Zb 0,Zb (N:Int),Zs] 334 by rw[G.o];exact C.o.set 0 _);have F7:=Y (show OS w m from aM F6.o J.o (by omega));exact Met.intro (up6 (Y (aW.o.later F7.o)) K7 (Y (R6.o.grow J.o (λo=>by have t:=OG o;omega))) F7 bj aH (Y (P7.o.ext ((Ex.one J.o).mono (λZ _ y=>.inr y))).1) (Y (Q7.o.ext ((Ex.one J.o).mono (λZ _ y=>.inr y))).1) (by omega) bg bf a5 RZ))
      |trace_state
end
section
open Go.RowKit Go.ChangeMaps
theorem Mx.Ey(a:aY Z n=0):Z.op.length<=n/\∀q∈Z.op,0<=q.at_/\q.at_<(n:Int):=by
 have h1:bK n Z.op=true:=(cJ (cb a).2.2).2.1;have h2:=eM h1;have c:=iV h2 (by omega);exact⟨by omega,λq b=>ej h2 q b⟩
theorem Snp.push{S:Nat->Prop}{w d:W_}{m n:Nat}{j:List (List B8)}{lo i:Int}{a:Nat}{es:List MapEntry}{ck:Nat}(h1:Mp 3 w m es ck)(h2:SnE S w n j a es)(s:SnK es lo a)(x:Ex S w d)(q:j.length=a+1)(l:List B8){g:Option Addr}{f:Nat}(t:BLo S d g n l)(hc:n<=f)(H:((a+1:Nat):Int)<=2147483647)(u:d.heap[m]?=some (.map (fS es (Zb ((a:Int)+1)) (g,n,f) ck).toArray (ck+1)))(E:i=(a:Int)+1\/lo<=i):Snp S d m n (j++[l]) i (a+1):=by
 have y:∀e∈es,e.key≠Zb ((a:Int)+1):=λe b c=>by
  have⟨k,o,_,_,h,D,_⟩:=h2 e b;rw[h] at c;injection c with _ c;omega
 refine⟨_,_,h1.push (gL (by omega) (by omega)) y _ u,λe b=>?_,λk F G=>?_⟩
 ·rcases ip.1 b with b|b
  ·have⟨k,o,B,v,h,D,p,C,r,A⟩:=h2 e b;exact⟨k,o,B,v,h,by omega,by rw[OO (OI.1 p).1];exact p,C,r.ext x,A⟩
  ·rw[i5.1 b];exact⟨a+1,l,g,f,by simp,OJ _,by rw[<-q,ON (OJ _),TK];rfl,rfl,t,hc⟩
 ·by_cases c:k=a+1
  ·subst c;exact⟨⟨Zb ((a:Int)+1),(g,n,f),ck⟩,UL _ (i5.2 rfl),by simp⟩
  ·have⟨e,b,z⟩:=s k (by omega) (by omega);exact⟨e,Ut _ b,z⟩
theorem CN(l:Z.num=(N:Int))(x:Mut X w)(v:Buo X w a g k q m c Z.op Z.se)(t:aY Z n=0)(h0:(N:Int)≠2147483647):
 C_ prog 146 #[.agg #[N,(a,g,k),(q,m,c),Zl Z.be],n] w λs p=>
  ∃d b f r o e,s=Zr #[.agg #[Zb ((N:Int)+1),.slice d b f,.slice r o e,Zl (ew Z)],Zn]/\H_ (Buo X p d b f r o e (cA Z).op (cA Z).se)/\H_ (OS w p):=by
 have h:=Gr x v t (by rw[l];exact h0);rw[l] at h;exact h
theorem yw(hm:Mut U w)(hp:PrW X U w g n W Z V)(d:aY Z n=0)(hbl:W[V.ar]?=l)(aQ:W.length=V.ar+1)(hh:((V.ar+1:Nat):Int)<=2147483647)(hs:(V.s:Int)<=2147483647):
 C_ prog 117 #[(g,0)] w λe k=>e=Zv Zn/\H_ (PrD X U w k g n (W++[lay l Z.op]) (cA Z) {V with ar:=V.ar+1}):=by
 have⟨p,oa,T,D,sa,sn,sc,m,qa,qn,qc,ha,hn,hc,ad⟩:=hp;have⟨N,v⟩:=ZX V.ar;have ah:=Y (show Z.num=(N:Int) by rw[ad.r.num,v]);have aP:=Y (show(N:Int)≠2147483647 by rw[v];omega);have aX:(N:Int)+1<=2147483647:=by rw[v];omega
 have bb:H_ (T<=n):=(by rw[<-ad.r.bu.op.1.1];exact(Ey d).1);have a9:=Y (Ey d).2;have HX:=Y ad;have am:=Y hm;have NE:=Y ad.ne;have aV:=Y d;have a5:=Y hbl;have aT:=Y aQ;have HS:=Y hs;have bo:g<w:=Bx.lt ad.bx;have aR:Z.se.length<=4:=(cb d).2.1;have a3:=Y aR;have⟨x0,x1,x2,x3,x4,x5,x6,x7,x8,x9,az,aG,aH,aE⟩:=ad.bx.cells;rw[ah] at x2;clear ad hm d hbl aQ hh hs aR x0 x6 x7 x8 x9 az aG aH aE;go_enter func117,ntmps117;go_upto_region 1 with fail;have UB:H_ (Buo U w.drew oa T D sa sn sc Z.op Z.se):=HX.r.bu.ext (Ex.below (ce _ _).drew);have UA:=Y (show Buo (λZ=>U Z\/Z=w) (w.alloc (.cells #[Zi,Zs,Zs,Zl false] 233)).drew oa T D sa sn sc Z.op Z.se from(HX.r.bu.wd ((Wd.refl U w).add (OJ _))).ext (Ex.below (af).drew));have r:g<w:=(by assumption);have bd:¬w=g:=by omega
 have DA:=Y (show OS w (w.alloc (.cells #[Zi,Zs,Zs,Zl false] 233)).drew from(af).drew);have DB:=Y (show OS w w.drew from(ce _ _).drew);have XA:H_ (Bx (w.alloc (.cells #[Zi,Zs,Zs,Zl false] 233)).drew w #[Zi,Zs,Zs,Zl false] 233):=Bx.dC w _ _;have bn:¬U w:=λhs=>by have:=am.lt _ hs;omega
 have MA:=Y (show Mut (λZ=>U Z\/Z=w) (w.alloc (.cells #[Zi,Zs,Zs,Zl false] 233)).drew from(am.later DA).add XA (eA rfl));have MB:=Y (am.later DB);have WA:=Y (show Wd U (λZ=>U Z\/Z=w) w from(Wd.refl U w).add (OJ _));go_region_held3 (λk=>k.cell? (g,1)=Zb (n:Int)/\k.cell? (g,2)=Zb (N:Int)/\k.cell? (g,3)=(oa,T,D)/\k.cell? (g,4)=(sa,sn,sc)/\k.cell? (g,5)=Zl Z.be)
  (first|((try simp only[an,aq r]);with_reducible exact⟨x1,x2,x3,x4,x5⟩)|((try simp only[aq a1,aw bd]);with_reducible exact⟨aF,av,aB,ax,aD⟩))
  (first|(go_at_call 146;(with_reducible refine(CN ah.o MB.o UB.o aV.o aP.o).mono ?_);rintro e q ⟨F,P,kc,S,ln,E,rfl,U2,E2⟩;have f:=Y (DB.t E2);have aF:=(f.cell (p:=(g,1)) r).trans x1;have av:=(f.cell (p:=(g,2)) r).trans x2;have aB:=(f.cell (p:=(g,3)) r).trans x3;have ax:=(f.cell (p:=(g,4)) r).trans x4;have aD:=(f.cell (p:=(g,5)) r).trans x5;have a1:g<q:=OE r f.size)|(go_at_call 146;(with_reducible refine(CN ah.o MA.o UA.o aV.o aP.o).mono ?_);rintro e q ⟨F,P,kc,S,ln,E,rfl,U2,E2⟩;have f:=Y (DA.t E2);have aF:=(f.cell (p:=(g,1)) r).trans x1;have av:=(f.cell (p:=(g,2)) r).trans x2;have aB:=(f.cell (p:=(g,3)) r).trans x3;have ax:=(f.cell (p:=(g,4)) r).trans x4;have aD:=(f.cell (p:=(g,5)) r).trans x5;have a1:g<q:=OE r f.size;have X2:=Y (XA.later E2 XA.lt);have bm:q.cell? w=Zb 0:=X2.cell 0;have bc:q.cell? (w,1)=Zs:=X2.cell 1;have be:q.cell? (w,2)=Zs:=X2.cell 2;have bi:q.cell? (w,3)=Zl false:=X2.cell 3;have zz:=X2.frozen))
 all_goals
  first
   |(have⟨s,ag⟩:=ZX (q.alloc (.cells #[.int .i64 ((N:Int)+1),(F,P,kc),(S,ln,E),.bool (ew Z)] 233))
     have⟨o,ab⟩:=ZX q
     have X3:H_ (Bx s o #[.int .i64 ((N:Int)+1),(F,P,kc),(S,ln,E),.bool (ew Z)] 233):=(by rw[ag,ab];exact Bx.new q _ _);have F3:=beA ag;have D3:=Y (f.t F3);have U3:H_ (Buo U s F P kc S ln E (cA Z).op (cA Z).se):=U2.ext (Ex.below F3);have a2:w.heap.size<=o:=by rw[ab];exact f.size
     rw[<-ag,<-ab])
   |(have⟨s,ag⟩:=ZX (((((q.setCell w (.int .i64 ((N:Int)+1))).setCell (w,1) (.slice F P kc)).setCell (w,2) (.slice S ln E)).setCell (w,3) (.bool (ew Z))))
     have⟨o,ab⟩:=ZX w
     have U3:H_ (q.grownBy s (some w)):=(by rw[ag];exact ak (ak (ak (ak (au _) _ _) _ _) _ _) _ _);have X3:H_ (Bx s o #[.int .i64 ((N:Int)+1),(F,P,kc),(S,ln,E),.bool (ew Z)] 233):=(by rw[ag,ab];exact(((X2.set 0 _).set 1 _).set 2 _).set 3 _);have D3:=Y (aM f U3 (OJ _));have Z3:H_ (Ex (λZ=>Z=w) q s):=Ex.one U3;have U3:=Y (show Buo U s F P kc S ln E (cA Z).op (cA Z).se from(U2.ext (Z3.mono (λZ _ d=>.inr d))).wd (λZ _ hs=>.inl hs));have a2:w.heap.size<=o:=by rw[ab];exact OJ _
     rw[<-ag,<-ab])
  clear x1 x2 x3 x4 x5 aF av aB ax aD;try clear bm bc be bi zz
  have b:=Y (HX.later D3);have M4:=Y (am.later D3);have bs:¬o=g:=by omega
  have br:o<s.heap.size:=X3.lt;go_upto_region 4 with fail;have⟨z,t1,t2,t3⟩:=Bx.four X3;have⟨x0,x1,x2,x3,x4,x5,x6,x7,x8,x9,az,aG,aH,aE⟩:=b.bx.cells;clear x1 x2 x4 x5 x6 x7 x9 az aG aH aE t1 t2 t3;have⟨al,aC,ND⟩:=b.r.nd;have bj:al=l:=by rw[a5] at aC;exact(OG aC).symm
  subst bj;have HD:=Y ND;clear ND aC;have a8:=Y (b.r.bu.op.1.later (ce _ _).drew);have aL:o≠p:=by
   intro e;have⟨_,_,_,_,_,_,_,TT,_⟩:=HD.o;have h1:=X3.o;have h2:=TT.bx;unfold Sbx at h2;unfold Bx at h1 h2;rw[e,h2] at h1;simp at h1
  have aW:o≠m:=by
   intro e;have⟨es,C,hm⟩:=b.r.mp.is;have h1:=X3.o;unfold Bx at h1;rw[e,hm] at h1;cases h1
  go_region_held3 (λk=>k.cell? g=(p,0)/\k.cell? (g,3)=(oa,T,D)/\k.cell? (g,8)=Zb (V.s:Int)/\k.cell? o=Zb ((N:Int)+1))
   (first|((try simp only[an]);with_reducible exact⟨x0,x3,x8,z⟩)|with_reducible exact⟨y0,y3,y8,aj⟩)
   (first|(go_at_call 147;(with_reducible refine(j6 (M4.o.later (ce _ _).drew) (HD.o.later (ce _ _).drew) D a8.o a9.o bb.o (by omega) aX (by omega) HS.o).mono ?_);rintro e w4 ⟨rfl,N4,G4,M5⟩;have y0:=G4.cell (row:=p) (a:=⟨g,0,none⟩) x0 (λe=>NE.1 (OG e));have y3:=G4.cell (row:=p) (a:=⟨g,3,none⟩) x3 (λe=>NE.1 (OG e));have y8:=G4.cell (row:=p) (a:=⟨g,8,none⟩) x8 (λe=>NE.1 (OG e));have aj:=G4.cell (row:=p) (a:=⟨o,0,none⟩) z (λe=>aL (OG e))))
  all_goals
   clear x0 x3 x8 z y0 y3 y8 aj;have GW:=Y (show s.grownBy w4 (some p) from(bQ (ce _ _).drew (H:=some p)).trans G4);have Z4:=Y (Ex.one GW);have X5:H_ (Pbx w4 g p n Z.num oa T D sa sn sc Z.be m (V.safe:Int) (V.s:Int) (V.base:Int) qa qn qc V.known (V.goal:Int) ha hn hc):=Ex.bx Z4 b.bx NE.1;have B5:=Y (Ex.bx Z4 X3 aL);have x0:=X5.cells.1;go_upto_region 7 with fail;go_wp2_with fail;refine(oR N4).mono ?_;rintro e A ⟨aI,rfl,O5,E5⟩;have X6:H_ (Pbx A g p n Z.num oa T D sa sn sc Z.be m (V.safe:Int) (V.s:Int) (V.base:Int) qa qn qc V.known (V.goal:Int) ha hn hc):=Bx.later X5 E5 (Bx.lt X5);have B6:=Y (Bx.later B5 E5 B5.lt);have⟨QB,bh⟩:=ay.blo O5 M5 (OJ _);have bf:=Y QB;clear x0 QB;go_upto_region 10 with fail;have bk:H_ (Ex U s A):=Y (((Z4.mono (λZ _ d=>by rw[d];exact b.sub _ b.ag))).trans (Ex.below E5));have Z5:H_ (Ex (λZ=>Z=p) s A):=Z4.trans (Ex.below E5);have⟨es,C,ai,aU,aN⟩:=b.r.mp;have aZ:=Y aU;have bg:=Y aN;have aO:H_ (Mp 3 A m es C):={ai with at_:=(Z5.block m ai.ltm (λe=>NE.2.2 e.symm)).trans ai.at_};have a6:=Y (show ∀e∈es,e.key≠Zb ((N:Int)+1) from λe he hk=>by
    have⟨bp,bq,_,_,h5,h6,_⟩:=aZ e he;rw[h5] at hk;injection hk with _ hk
    have h7:=v.o;omega)
   have ba:=Y ai;clear ai aU aN;have⟨y,ao⟩:=ZX (setBlock A.drew m (.map (fS es (Zb ((N:Int)+1)) (aI,n,n) C).toArray (C+1)));have a4:(Instr.mapUpdate 234 (.map (some m)) (Zb ((N:Int)+1)) (aI,n,n)).run prog A.drew=.ok () y:=by
    rw[ao];exact Mp.oI fJ Tryz.underlying234 (aO.later (ce _ _).drew) (gL (by omega) aX) a6 _
   have G6:H_ (A.grownBy y (some m)):=(by rw[ao];exact(bQ (ce _ _).drew (H:=some m)).trans (gS));have Z6:=Y (Ex.one G6);have A6:H_ (y.heap[m]?=some (.map (fS es (Zb ((N:Int)+1)) (aI,n,n) C).toArray (C+1))):=(by rw[ao];exact ic aO.ltm);have x6:=X6.cells.2.2.2.2.2.2.1;have z:A.cell? o=Zb ((N:Int)+1):=B6.cell 0;have y6:y.cell? (g,6)=some (.map (some m)):=G6.cell (row:=m) (a:=⟨g,6,none⟩) x6 (λe=>NE.2.1 (OG e));have aj:y.cell? o=Zb ((N:Int)+1):=G6.cell (row:=m) (a:=⟨o,0,none⟩) z (λe=>aW (OG e));clear ao;go_region_held3 (λk=>k.cell? (g,6)=some (.map (some m))/\k.cell? o=Zb ((N:Int)+1))
    (first|((try simp only[an]);with_reducible exact⟨x6,z⟩)|with_reducible exact⟨y6,aj⟩)
    (fail)
   all_goals
    clear x6 z y6 aj a4;have B7:=Y (Ex.bx Z6 B6 aW);have X7:H_ (Pbx y g p n Z.num oa T D sa sn sc Z.be m (V.safe:Int) (V.s:Int) (V.base:Int) qa qn qc V.known (V.goal:Int) ha hn hc):=Ex.bx Z6 X6 NE.2.1;have M7:=Y ((M5.later E5).vJ Z6 A6);have aS:H_ (Ex U A y):=Y (Z6.mono (λZ _ d=>by rw[d];exact b.sub _ b.am));have ap:=Y (bk.trans aS);have R7:=Y (show PrR U y n (W++[lay al Z.op]) (cA Z) {V with ar:=V.ar+1} p F P kc S ln E m qa qn qc ha hn hc from by
     refine⟨⟨lay al Z.op,?_,?_⟩,U3.ext ap,?_,b.r.qu.sB ap,b.r.qc,b.r.hd.ext ap,b.r.hc,?_⟩
     ·show(W++[lay al Z.op])[V.ar+1]?=_
      rw[<-aT,ON (OJ _),TK];rfl
     ·have h1:=(N4.later E5).ext Z6 (λZ d=>by rw[d];exact b.sub _ b.am) NE.2.2
      have h2:((V.ar+1:Nat):Int)=(N:Int)+1:=by rw[v];push_cast;rfl
      show Nd U y p n (lay al Z.op) ((V.ar+1:Nat):Int) (V.s:Int)
      rw[h2];exact h1
     ·have a7:(cA Z).num-((cA Z).se.length:Int)=(V.ar:Int)+1\/Z.num-(Z.se.length:Int)<=(cA Z).num-((cA Z).se.length:Int):=by
       have h1:=ah.o;have h2:=v.o;unfold cA;simp only;cases ew Z with
       |true=>left;simp;omega
       |false=>right;simp;omega
      have hq:=bf.ext aS;have h3:=A6.o;rw[v] at h3;refine Snp.push (w:=s) (es:=es) (ck:=C) ?_ (aZ) bg ap aT _ hq bh (by have h2:=v.o;omega) h3 a7;exact ba
     ·show Z.num+1=((V.ar+1:Nat):Int)
      rw[ah,v]
      push_cast
      rfl)
    have⟨z,t1,t2,t3⟩:=Bx.four B7;go_upto_region 11 with fail;go_wp2_with fail;have aJ:(cA Z).se.length<=4:=by
     unfold cA;simp only;cases hf:ew Z with
     |true=>simp
     |false=>
      unfold ew at hf;simp at hf;have:=a3.o;simp;omega
    have aA:=wV (X:=X) (U:=U) (k:=g) (n:=n) (W:=W++[lay al Z.op]) (Z:=cA Z) (V:={V with ar:=V.ar+1}) (w:=y) M7 (g:=p) (x:=Z.num) (a:=oa) (c:=T) (j:=D) (q:=sa) (i:=sn) (h:=sc) (R:=Z.be) (p:=F) (b:=P) (B:=kc) (Q:=S) (N:=ln) (M:=E) (m:=m) (P:=qa) (L:=qn) (K:=qc) (O:=ha) (J:=hn) (hc:=hc) X7 R7 b.aP b.ag b.am b.sub (by have h2:=v.o;show((V.ar+1:Nat):Int)<=_;omega) aJ;have aK:(cA Z).num=(N:Int)+1:=by rw[<-ah];rfl
    have a0:(cA Z).be=ew Z:=rfl;rw[aK,a0] at aA;clear aK a0 aJ;refine aA.mono ?_;clear aA;rintro e w8 ⟨rfl,P8⟩;clear z t1 t2 t3;go_wp2_with fail;have E8:=Y (show Ex X w w8 from(Ex.below D3).trans (((Z5.mono (λZ _ d=>by rw[d];exact b.ag))).trans (((Z6.mono (λZ _ d=>by rw[d];exact b.am))).trans P8.ext)));exact UM (by simp[results,results117,go_sem]) rfl ⟨rfl,⟨P8.mu,P8.pr,E8⟩⟩
