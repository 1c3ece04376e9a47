import Derived.Laws.EntriesVeiled
import Derived.Test.YtgklbhiamepfoaaGreatDoorZ35
set_option maxHeartbeats 16000000
set_option maxRecDepth 100000
namespace Go.Proofs.YtgklbhiamepfoaaGreatDoor
open Go renaming World->W_,Value->V_,Calls->C_,Addr->A_
open Go.RowKit renaming Hid->H_
open Go.Proofs.Tryz Mx
variable {m c j i h B O:Nat}{Z:List De}{X:Ending->W_->Prop}{v z r:W_}{U:Array V_}{T:List ByteArray}{x y t E:Int}{l M:List B8}{d D:B8}{a q:Option A_}{S P:ByteArray}{u G F C A s p o f e:V_}{R:List (List B8)}{Q:De}{N:Obj}{L:Nat->Prop}{K:List V_}{J:A_}{I:TypeId}{H:Prop}
open Go.RowKit
section
variable {w:W_}{g n:Nat}
theorem Mx.qT(c:UInt8):∀(s:Tx),∀x∈cut c s,x.length<=s.length
 |[],x,h=>by
  have h1:x=[]:=by simpa[cut] using h
  rw[h1];exact OJ _
 |b::r,x,h=>by
  have d:=qT c r;unfold cut at h;have a:∀y∈cut c r,y.length<=r.length+1:=λy e=>Ty (d y e)
  split at h
  ·rcases ro.1 h with rfl|h
   ·exact ol _
   ·exact a x h
  ·unfold jE at h
   rcases ro.1 h with rfl|h
   ·cases hc:cut c r with
    |nil=>simp
    |cons y t=>
     have:=d y (by rw[hc];exact li);simp;omega
   ·exact a x (List.mem_of_mem_tail h)
theorem Mx.oL(c:UInt8):∀(s:Tx),(cut c s).length<=s.length+1
 |[]=>by simp[cut]
 |b::r=>by
  have a:=oL c r;unfold cut;split
  ·simp;omega
  ·unfold jE
   simp;omega
theorem Ez(s:Tx):aZ.findIdx? (λx=>x.1==s)=wds.findIdx? (λx=>x.1==s):=by
 have h1:∀l:List (Tx×V_),l.findIdx? (λx=>x.1==s)=(l.map (·.1)).findIdx? (·==s):=λl=>by rw[List.findIdx?_map];rfl
 have h2:∀l:List (Tx×Nat),l.findIdx? (λx=>x.1==s)=(l.map (·.1)).findIdx? (·==s):=λl=>by rw[List.findIdx?_map];rfl
 rw[h1,h2];rfl
theorem Mx.vB(n:Nat)(a:List De)(x:De):0<=(aS n a x).e/\(aS n a x).e<=5:=by
 have h:0<=doE n x/\doE n x<=5:=by
  unfold doE cX
  repeat' split
  all_goals omega
 unfold aS
 repeat' split
 all_goals first|exact h|(dsimp only;omega)
theorem Mx.JB(n:Nat)(c:List De)(k:Nat)(a b:Tx):0<=(cmd n c k a b).e/\(cmd n c k a b).e<=5:=by
 unfold cmd settled cu aT
 repeat' split
 all_goals first|exact vB _ _ _|(dsimp only;omega)
def AnP(w:W_)(g:Nat)(out:Tx)(o:Out)(e:Ending)(w':W_):Prop:=e=Zv (.string ⟨o.tx.toArray⟩)/\Dsk w' g out o.n o.ds/\Fd g w w'
theorem JS{d:Tx}(h:Rdy w g n d Z)(c:OS w v):AnP w g d ⟨0,[98,97,100],n,Z⟩ (Zv (.string ⟨#[98,97,100]⟩)) (v.alloc N):=
 have a:=c.trans ((af (v:=v) (P:=N)).mono c.size)
 ⟨rfl,h.dsk.later a,Fd.of a⟩
theorem Ac{v:Tx}(ae:Rdy w g n v Z)(hm:w.heap[m]?=some (.map (ent 0 aZ).toArray 12))(hs:S.size≤5000):
 C_ Tryz.prog 9 #[.pointer (some ⟨g,0,none⟩),.map (some m),.string S] w λe w'=>H_ (AnP w g v (fP n Z (cut 32 (tx S))) e w'):=by
 have H:=Y ae;have HM:=Y hm;have HS:=Y hs;have HP:=Y (FX ae.gv hs);clear ae hm hs;obtain⟨s,ho⟩:∃s,H_ (s=fP n Z (cut 32 (tx S))):=⟨_,rfl⟩;rw[←ho.o];go_enter Tryz.func9,Tryz.ntmps9;go_wp2_with fail;refine HP.o.mono ?_;clear HP;rintro e f ⟨M,rfl,J,Q⟩;have F:=Y (show OS w f by rw[Q];exact af);have I:=Y (show Bx f w.heap.size (M.map Value.string).toArray 9 by rw[Q];exact Bx.new w _ _);clear Q;have HC:=Y (show ∀(o:Nat) x,M[o]?=some x→f.cell? ⟨w.heap.size,o,none⟩=some (.string x) from λo x hj=>by
  rw[I.o.cell o];simp[hj])
 obtain⟨a,r,rfl⟩:∃a r,M=a::r:=by
  cases M with
  |nil=>exact absurd J.o.symm (lP _ _)
  |cons ak r=>exact⟨ak,r,rfl⟩
 have h5:a.size≤5000:=OP (qT 32 (tx S) (tx a) (by rw[←J.o];exact li)) HS.o;have c0:=HC.o 0 a rfl;have hz:(zeroValue 55).run Tryz.prog f=.ok (.agg #[.int .i64 0,.nilFunc]) f:=by kernel_rfl
 have j:=vG (w:=f) Tryz.underlying32 ((F.o.block m (co.1 HM.o).1).trans HM.o) KI eQ h5 hz;rw[Ez] at j;obtain⟨P,C⟩:∃P,H_ (P+1=(a::r).length):=⟨r.length,rfl⟩;rw[←C.o];have am:wrap64 (P:Int)=P:=by
  have i:=oL 32 (tx S);rw[←J.o,pm,←C.o] at i;have h8:(tx S).length≤5000:=HS.o;unfold wrap64;omega
 have c:=Y (show s=match wds.findIdx? (λx=>x.1==a.data.toList) with
  |some k=>if P+1=(wds.getD k ([],0)).2+1 then cmd n Z k (((a::r).map tx).getD 1 []) (((a::r).map tx).getD 2 []) else⟨0,[98,97,100],n,Z⟩
  |none=>⟨0,[98,97,100],n,Z⟩ by
  rw[ho.o,←J.o,C.o];unfold fP;rw[pm];rfl)
 clear hz ho;cases hf:wds.findIdx? (λx=>x.1==a.data.toList) with
 |none=>
  rw[hf] at j c;simp only at j c;go_wp2;go_ret;rw[c.o];exact JS H.o F.o
 |some k=>
  rw[hf] at j c;simp only at j c;have hk:k<12:=(TY.1 hf).1;have⟨t,G,ai,HW⟩:=J9 hk (V:=.agg #[.int .i64 0,.nilFunc]);have ah:(aZ.getD k ([],.agg #[.int .i64 0,.nilFunc])).2=_:=G;rw[ah] at j;clear G ah hf;obtain⟨E,hC⟩:∃E:Nat,H_ (E=(wds.getD k ([],0)).2):=⟨_,rfl⟩;rw[←hC.o] at j c;obtain⟨l,ad⟩:∃l:W_,H_ (l=f.alloc (.cells #[.int .i64 (E:Int),.func (.func t) #[] #[]] 55)):=⟨_,rfl⟩;have B2:=bxA ad;have O:=beA ad;have D:=Y (show OS w l from F.o.trans (O.o.mono F.o.size));have⟨y0,y1⟩:=B2.o.pair;go_upto_region 3 with fail;rw[←ad.o];by_cases h1:P=E
  ·subst h1;rw[UY rfl] at c;obtain⟨q,K⟩:∃q,H_ (q=cmd n Z k (((a::r).map tx).getD 1 []) (((a::r).map tx).getD 2 [])):=⟨_,rfl⟩;rw[←K.o] at c;have R:=Y (show ∀x,OS l x→∀L,(1<(a::r).length→L=.slice (some ⟨w.heap.size,1,none⟩) ((a::r).length-1) ((a::r).length-1))→C_ Tryz.prog t #[.pointer (some ⟨g,0,none⟩),L] x λe w'=>H_ (CmP x g v q e w') from λx hx L G=>by
    rw[K.o];have al:l.heap.size≤x.heap.size:=hx.size;exact HW.o x g n v Z (a::r) w.heap.size L ((H.o.later D.o).later hx) (OE I.o.lt (OP O.o.size al)) (λo x hj=>(hx.cell (p:=⟨w.heap.size,o,none⟩) (OE I.o.lt O.o.size)).trans ((O.o.cell (p:=⟨w.heap.size,o,none⟩) I.o.lt).trans (HC.o o x hj))) (by rw[←C.o,←hC.o]) G)
   rw[←C.o] at R;have ab:OS l l.drew:=(ce _ _).drew;clear HW j c0;have T:=Y (show ∀y e,H_ (CmP l.drew g v q e y)→e=.returned (.tuple #[.string ⟨q.t.toArray⟩,aJ q.e])∧H_ (Dsk y g v q.n q.ds∧Fd g w y)∧y.cell? ⟨f.heap.size,1,none⟩=some (.func (.func t) #[] #[]) from λy e hc=>by
    have⟨h1,h2,d⟩:=hc.o;have N:Bx l.drew f.heap.size #[.int .i64 (P:Int),.func (.func t) #[] #[]] 55:=B2.o;refine⟨h1,⟨h2,(Fd.of (D.o.trans (ab.mono D.o.size))).trans d⟩,?_⟩;have hg:g<w.heap.size:=by have⟨_,_,_,_,_,i⟩:=H.o.dsk;exact i.bx.lt
    have h8:=d.block f.heap.size N.lt (λe=>by
     rcases e with e|⟨_,cs,f2,e⟩
     ·have:=F.o.size;omega
     ·unfold Bx at N;rw[N] at e;cases e)
    have h7:Bx y f.heap.size #[.int .i64 (P:Int),.func (.func t) #[] #[]] 55:=h8.trans N;exact h7.cell 1)
   obtain⟨qe,U⟩:∃qe,H_ (qe=aJ q.e):=⟨_,rfl⟩;rw[←U.o] at T;have ag:=Y (show g<w.heap.size by have⟨_,_,_,_,_,i⟩:=H.o.dsk;exact i.bx.lt);go_upto_region 5 with fail;by_cases h0:P=0
   ·subst h0;go_region_held3 (λx=>x.cell? ⟨f.heap.size,1,none⟩=some (.func (.func t) #[] #[]))
     (first
       |with_reducible assumption
       |exact y1)
     (first
       |(with_reducible refine(R.o _ ab _ ?zzv).mono ?_;(case zzv=>intro i;omega);rintro e y B;obtain⟨rfl,h,y9⟩:=T.o y e B;clear B))
    all_goals
     clear y9;rw[U.o] at*;by_cases d:q.e=0
     ·rw[show aJ q.e=.nilIface by rw[d];rfl];have u:=Y (show s.tx=q.t by rw[c.o];unfold Out.tx;rw[UY d]);clear d;go_wp2;go_ret;exact⟨by rw[u.o];rfl,by rw[c.o];exact h.o.1,h.o.2⟩
     ·rw[ki d];have u:=Y (show s.tx=er q.e by rw[c.o];unfold Out.tx;rw[UX d]);have p:=Y (show InR q.e by have i:=JB n Z k (((a::r).map tx).getD 1 []) (((a::r).map tx).getD 2 []);rw[←K.o] at i;exact⟨by omega,by omega⟩);have HU:=Y (ov (H.o.gv.later (h.o.2.below (TP ag.o)) H.o.g7) p.o);have hs:¬9223372036854775807<6+(Lib.itoa q.e).length:=by have:=Lib.itoa_length_le q.e p.o.lo p.o.hi;omega
      clear d;go_wp2_with fail;refine HU.o.mono ?_;rintro e aj ⟨rfl,A⟩;go_wp2;go_ret;refine⟨?_,by rw[c.o];exact h.o.1.later A.o,h.o.2.trans (Fd.of A.o)⟩;rw[u.o,show er q.e=[101,114,114,111,114,32]++Lib.itoa q.e from rfl,←fa];rfl
   ·obtain⟨z,rfl⟩:∃z,P=z+1:=⟨P-1,by omega⟩;have h6:¬z+1+1=1:=by omega
    have h7:(1:Int)≤(z:Int)+1+1:=by omega
    go_region_held3 (λx=>x.cell? ⟨f.heap.size,1,none⟩=some (.func (.func t) #[] #[]))
     (first
       |with_reducible assumption
       |exact y1)
     (first
       |(with_reducible refine(R.o _ ab _ ?zzv).mono ?_;(case zzv=>(intro _;simp));rintro e y B;obtain⟨rfl,h,y9⟩:=T.o y e B;clear B))
    all_goals
     clear y9;rw[U.o] at*;by_cases d:q.e=0
     ·rw[show aJ q.e=.nilIface by rw[d];rfl];have u:=Y (show s.tx=q.t by rw[c.o];unfold Out.tx;rw[UY d]);clear d;go_wp2;go_ret;exact⟨by rw[u];rfl,by rw[c];exact h.1,h.2⟩
     ·rw[ki d];have u:=Y (show s.tx=er q.e by rw[c];unfold Out.tx;rw[UX d]);have p:H_ (InR q.e):=(by have i:=JB n Z k (((a::r).map tx).getD 1 []) (((a::r).map tx).getD 2 []);rw[<-K] at i;exact⟨by omega,by omega⟩);have HU:=Y (ov (H.o.gv.later (h.o.2.below (TP ag.o)) H.o.g7) p.o);have hs:¬9223372036854775807<6+(Lib.itoa q.e).length:=by have:=Lib.itoa_length_le q.e p.o.lo p.o.hi;omega
      clear d;go_wp2_with fail;refine HU.o.mono ?_;rintro e aj ⟨rfl,A⟩;go_wp2;go_ret;refine⟨?_,by rw[c.o];exact h.o.1.later A.o,h.o.2.trans (Fd.of A.o)⟩;rw[u.o,show er q.e=[101,114,114,111,114,32]++Lib.itoa q.e from rfl,←fa];rfl
  ·rw[UX (by omega)] at c;have h2:¬(P:Int)=E:=by omega
   clear ai HW j c0;go_wp2;go_ret;rw[c.o];exact⟨rfl,H.o.dsk.later D.o,Fd.of D.o⟩
end
section
variable {n:Nat}
namespace Mx
def xD(st:Tx×Nat×List De)(x:Tx):Tx×Nat×List De:=(st.1++((fP st.2.1 st.2.2 (cut 32 x)).tx++[10]),(fP st.2.1 st.2.2 (cut 32 x)).n,(fP st.2.1 st.2.2 (cut 32 x)).ds)
def ses(l:List Tx):Tx×Nat×List De:=l.foldl xD ([],0,[])
theorem kF(l:List Tx)(x:Tx):ses (l++[x])=xD (ses l) x:=by unfold ses;rw[dT];rfl
def trim (x:Tx):Tx:=Lib.trimSuffix (x.take 5000) [10]
theorem Jo{a:Tx}(h:(a++[10]).length<=5000):trim (a++[10])=a:=by
 unfold trim;rw[OL h];simp[Lib.trimSuffix,Lib.hasSuffix]
theorem Ge{a:Tx}(h:a.length<=5000)(d:(10:UInt8)∉a):trim a=a:=by
 unfold trim;rw[OL h];have:¬[10]<:+a:=λhs=>d (hs.subset (by simp))
 unfold Lib.trimSuffix;rw[UX];intro c;unfold Lib.hasSuffix at c;exact this (by simpa using c)
theorem IV:∀(k:Nat) (s:Tx),s.length<=k->k<=5000->(raw s).map trim=lns s:=by
 intro k;induction k with
 |zero=>
  intro s hs _;have:s=[]:=List.length_eq_zero_iff.1 (by omega);subst this;rfl
 |succ k i=>
  intro s hs j;by_cases c:(10:UInt8)∈s
  ·obtain⟨a,b,f,d⟩:∃a b,s=a++10::b/\(10:UInt8)∉a:=by
    have⟨a,b,e,h⟩:=List.eq_append_cons_of_mem c;exact⟨a,b,e,h⟩
   subst f;simp only[OC,fd] at hs;rw[sN b d,Kq b d,i7,Jo (by simp;omega),i b (by omega) (by omega)]
  ·by_cases h0:s=[]
   ·subst h0;rfl
   ·rw[qj c h0,H6 c h0,i7,Ge (by omega) c];rfl
theorem zN:∀(s:Tx),(raw s).length<=s.length
 |[]=>OJ _
 |c::r=>by
  have a:=zN r;unfold raw;split
  ·simp;omega
  ·simp;omega
theorem zL:(dh n l x d).length=l.length:=by
 unfold dh ey;split
 ·simp
 ·rfl
theorem oE(n:Nat):∀(c:List De) (st:List (List B8)×List B8),st.1≠[]->(∀l∈st.1,l.length=n)->st.2.length=n->(∀l∈(c.foldl (dL n) st).1,l.length=n)/\(c.foldl (dL n) st).2.length=n/\(c.foldl (dL n) st).1≠[]
 |[],st,h0,h1,h2=>⟨h1,h2,h0⟩
 |y::r,st,h0,h1,h2=>by
  refine oE n r (dL n st y) ?_ ?_ ?_
  ·unfold dL doS;split<;>simp[h0]
  ·unfold dL doS
   split
   ·intro l a
    rcases ip.1 a with a|a
    ·exact h1 l a
    ·rw[i5.1 a];exact h2
   ·exact h1
  ·unfold dL doN
   split
   ·rw[zL];exact h2
   ·split
    ·rw[zL];exact h2
    ·split
     ·have d:st.1.length-1<st.1.length:=by have:=TG.2 h0;omega
      rw[Oy,Ox d];exact h1 _ (TJ d)
     ·exact h2
theorem pT(n:Nat)(a:List De):(dY n a).length=n/\(aC n a).2.length=n:=by
 have⟨h1,h2,d⟩:=oE n a ([List.replicate n zB],List.replicate n zB) (by simp) (λl e=>by rw[i5.1 e];simp) (by simp);refine⟨?_,h2⟩;unfold dY hv;have c:(aC n a).1.length-1<(aC n a).1.length:=by have:=TG.2 d;unfold aC;omega
 rw[Oy,Ox c];exact h1 _ (TJ c)
theorem vS:∀(f:Nat) (l:List Nat),(∀x∈l,x<18446744073709551616)->∀L∈fe f l,∀x∈L,x<18446744073709551616
 |0,l,h,L,a=>by rw[i5.1 a];exact h
 |f+1,l,h,L,a=>by
  rw[fe] at a;split at a
  ·rw[i5.1 a];exact h
  ·rcases ro.1 a with rfl|a
   ·exact h
   ·exact vS f (cw l) (qb l) L a
theorem Na(l:List B8):top l<18446744073709551616:=by
 have h:=vS (l.map bR).length (l.map bR) (λx a=>by obtain⟨y,_,rfl⟩:=m8.1 a;exact kM y);unfold top;rw[Oy (l:=levels _)];cases hL:(levels (l.map bR))[(levels (l.map bR)).length-1]? with
 |none=>simp
 |some L=>
  have h1:=h L (OR hL);show L.getD 0 0<_;rw[Oy];cases a:L[0]? with
  |none=>simp
  |some x=>exact h1 x (OR a)
theorem zo(n:Nat)(h:n<=1000):(Lib.itoa (n:Int)).length<=21:=Lib.itoa_length_le _ (by omega) (by omega)
theorem Nk(h0:0<=x)(h1:x<=5):(er x).length<=27:=by
 have:=Lib.itoa_length_le x (by omega) (by omega);unfold er;simp;omega
structure Ok (o:Out):Prop where
 n:o.n<=32
 m:o.ds.length<=300
 t:o.t.length<=9000
 e0:0<=o.e
 e1:o.e<=5
theorem Ka(x:De)(c:n<=32)(d:Z.length<=300):Ok (aS n Z x):=by
 have a:=vB n Z x;refine⟨?_,?_,?_,a.1,a.2⟩;all_goals unfold aS;repeat' split
 all_goals dsimp only
 all_goals first|assumption|(simp;done)|(simp;omega)|(rw[mF];omega)|skip
 exact OP (zo (hv n (Z++[x])) (by have:=kR n (Z++[x]);simp at this;omega)) (show 21<=9000 by decide)
theorem sE(m:List Tx)(a:n<=32)(c:Z.length<=300)(o:∀y∈Z,y.ok):Ok (fP n Z m):=by
 have f:Ok ⟨0,[98,97,100],n,Z⟩:=⟨a,c,by simp,by simp,by simp⟩;have d:∀e:Int,0<=e->e<=5->Ok ⟨e,[],n,Z⟩:=λe h0 h1=>⟨a,c,by simp,h0,h1⟩
 have h:Ok (settled n Z):=by
  unfold settled;split
  ·exact d 5 (by decide) (by decide)
  ·refine⟨a,c,?_,by simp,by simp⟩;have h1:=zo (hv n Z) (by have:=kR n Z;omega);have h2:(Lib.decDigits (top (dY n Z))).length<=20:=nO (Na _);simp only[OC,fd];omega
 have p:Ok (cu n Z):=by
  unfold cu;split
  ·exact d 5 (by decide) (by decide)
  ·split
   ·exact d 2 (by decide) (by decide)
   ·refine⟨a,c,?_,by simp,by simp⟩;have i:=js n o;have j:=pT n Z;refine OP (join_le 124 100 _ (λx l=>?_)) ?_
    ·obtain⟨q,r,rfl⟩:=m8.1 l;exact wU (qg (by omega) (by omega) i.2 q r)
    ·have h1:=lX (dY n Z) [] (bM (aC n Z).2);rw[eD,j.2] at h1;rw[pm];omega
 unfold fP;split
 ·split
  ·unfold cmd aT
   repeat' split
   all_goals first|exact Ka _ a c|exact h|exact p|exact d _ (by decide) (by decide)|skip
   exact⟨by dsimp only;omega,by simp,by simp,by simp,by simp⟩
  ·exact f
 ·exact f
theorem uV{o:Out}(h:Ok o):o.tx.length<=9000:=by
 unfold Out.tx;split
 ·exact h.t
 ·exact OP (Nk h.e0 h.e1) (by decide)
end Mx
end
theorem cL.lower(r:cL m v u j R L)(d:c<=m):cL c v u j R L:=by
 have⟨f,h1,h2⟩:=r;refine⟨f,World.ownsRow.mono h1 d,λq l h=>?_⟩;have⟨i,o,x,s,t,e⟩:=h2 q l h;exact⟨i,o,x,s,t,λp a=>⟨OP d (e p a).1,(e p a).2⟩⟩
theorem ClW.lower{b d:Nat}{w:W_}{K n:Nat}{c:List (List B8)}{e:List B8}(h:ClW b w K n c e)(a:d<=b):ClW d w K n c e:=by
 have⟨g,f,v,X⟩:=h;exact⟨g,f,v,X.bx,OP a X.kb,World.ownsRow.mono X.nw a,X.sn.lower a,X.nl,OP a X.bs⟩
structure RX (w:W_) (g n:Nat) (a:Option A_) (m c:Nat) (cp:Option A_) (ds es:List De):Prop where
 bx:Bx w g #[.int .i64 (n:Int),.slice a m c,.pointer cp] 50
 ml:ds.length=m
 row:w.ownsRow (g+1) 67 11 (.slice a m c) m (ds.flatMap De.cs)
 cl:1<=n->∃K,cp=some ⟨K,0,none⟩/\ClW (g+1) w K n (Mx.aC n es).1 (Mx.aC n es).2
 n2:n<=32
 m3:ds.length<=300
 ok:∀y∈ds,y.ok
def RD(w:W_)(g n:Nat)(ds:List De):Prop:=∃a m c cp,RX w g n a m c cp ds ds
theorem RX.later{w w':W_}{g n:Nat}{c:Option A_}{m e:Nat}{d:Option A_}{f i:List De}(h:RX w g n c m e d f i)(a:OS w w'):RX w' g n c m e d f i:=
 ⟨h.bx.later a h.bx.lt,h.ml,aW h.row a,λh1=>by have⟨K,j,hc⟩:=h.cl h1;exact⟨K,j,hc.later a⟩,h.n2,h.m3,h.ok⟩
theorem RD.later{w w':W_}{g n:Nat}{a:List De}(h:RD w g n a)(f:OS w w'):RD w' g n a:=by
 have⟨c,m,e,d,h⟩:=h;exact⟨c,m,e,d,h.later f⟩
theorem RD.lt{w:W_}{g n:Nat}{a:List De}(h:RD w g n a):g<w:=by
 have⟨c,m,e,d,h⟩:=h;exact h.bx.lt
def RlP(w:W_)(g:Nat)(o:Out)(e:Ending)(w':W_):Prop:=e=Zv (.string ⟨o.tx.toArray⟩)/\RD w' g o.n o.ds/\Below g w w'
def De.arr(x:De):Array V_:=(Zp x.kind x.at_ x.from_ x.d)
theorem oB{u:Nat}(h:RD v m c Z)(d:OS v z)(e:OS z r)(f:u≠0):RlP v m ⟨(u:Int),[],c,Z⟩ (Zv (.string ⟨(er (u:Int)).toArray⟩)) r:=by
 have a:=d.t e;exact⟨by unfold Out.tx;rw[UX (by show ¬(u:Int)=0;omega)],h.later a,a.mono (TP h.lt)⟩
theorem fi(t:Array V_):∃u:Nat->V_,t=((List.range t.size).map u).toArray:=by
 refine⟨λi=>t.getD i undef,?_⟩;apply TW;intro i;by_cases a:i<t.size
 ·simp[a,Array.getD]
 ·simp[a]
theorem nf(n:Nat)(a:List De):1<=(aC n a).1.length:=by
 have⟨_,_,c⟩:=oE n a ([List.replicate n zB],List.replicate n zB) (by simp) (λl d=>by rw[i5.1 d];simp) (by simp);exact TG.2 c
theorem Oq{ds:List De}{x:De}{b:B8}(H:H_ (RD v m c (ds++[x])))(F:1<=c)(E:H_ (Bx v h x.arr 67))(J:H_ (OU v j b))(I:H_ (by8 b))(a:H_ (∀V,OS v V->X (.returned (.string ⟨(if x.kind=2 then fp b else Lib.itoa (hv c (ds++[x]):Nat)).toArray⟩)) V))(hs:U.size=230)(h0:U[0]?=(m,0))(p:U[8]?=(h,0))(l:U[16]?=(j,0)):
 aA Tryz.f14 X 13 ⟨U,[]⟩ v:=by
 have⟨O,o⟩:=fi U;rw[hs] at o;simp only[List.range,List.range.loop,i7,rx] at o;subst o;simp only[OB,Oz,OA,Option.some.injEq] at h0 p l;rw[h0,p,l];clear h0 p l hs;have y:v.cell? h=Zb x.kind:=E.cell 0;refine aj rfl ?_;intro K hK;by_cases h2:x.kind=2
 ·rw[UY h2] at a;rw[h2] at y;have⟨y0,R,y2,y3,y4,T,y6,S⟩:=J.eight;have B:=Y (xu I v);go_wp2_with fail;refine B.mono ?_;rintro r V ⟨rfl,D⟩;go_wp2;exact a V D
 ·rw[UX h2] at a;have hd:(x.kind==2)=false:=by simpa using h2
  clear h2;go_wp2;refine Met.intro (bg (c:=.seq _ .ret) rfl ?_);have⟨Q,N,M,P,e⟩:=H.o;obtain⟨K,rfl,C⟩:=e.cl F;have⟨t,s,Z⟩:=e.bx.three;have L:1<=(aC c (ds++[x])).1.length:=nf _ _;have z:=kR c (ds++[x]);have A:=e.m3;obtain⟨hv,f⟩:∃hv,H_ (hv=Mx.hv c (ds++[x])):=⟨_,rfl⟩;have u:=Y (jN (k:=m+1) (j:=K) (i:=c) (u:=v) C (h:=hv) (by rw[f];unfold Mx.hv;omega) (by rw[f];omega));have G:=Y (oM hv (by rw[f];omega) v);rw[<-f] at a;clear e C L z A t s;go_wp2_with fail;refine u.mono ?_;rintro r V ⟨rfl,q⟩;rw[q];clear q V;go_wp2_with fail;refine G.mono ?_;rintro r V ⟨rfl,D⟩;go_wp2;exact a V D
section
variable {w w':W_}{n:Nat}
structure Kpd (w w':W_):Prop where
 size:w.heap.size<=w'.heap.size
 at_:∀(k:Nat) cs t f,w.heap[k]?=some (.cells cs t f)->t≠67->t≠50->w'.heap[k]?=w.heap[k]?
theorem zQ(h:w.ownsRow j m c u n K)(l:Kpd w w')(h1:m≠67)(h2:m≠50):w'.ownsRow j m c u n K:=by
 refine⟨h.1,?_⟩;rcases h.2 with a|⟨b,cap,e,a,i,d,f⟩
 ·exact .inl a
 ·exact .inr ⟨b,cap,e,a,i,(l.at_ b e _ _ d h1 h2).trans d,f⟩
theorem ClW.vZ(z:ClW j w m n R l)(e:Kpd w w'):ClW j w' m n R l:=by
 have⟨g,c,D,X⟩:=z;refine⟨g,c,D,(e.at_ m _ _ _ X.bx (by decide) (by decide)).trans X.bx,X.kb,zQ X.nw e (by decide) (by decide),?_,X.nl,OP X.bs e.size⟩;have⟨C,h1,h2⟩:=X.sn;refine⟨C,zQ h1 e (by decide) (by decide),λy E x=>?_⟩;have⟨a,c,B,h,A,f⟩:=h2 y E x;have o:∀p,a=some p->w'.heap[p.block]?=w.heap[p.block]?:=λp d=>by
  have⟨r,s,i⟩:=(f p d).2.2.2.2;exact e.at_ _ _ _ _ i (by decide) (by decide)
 refine⟨a,c,B,⟨h.1,h.2.1,h.2.2.1,λh0=>?_⟩,A,λp d=>⟨(f p d).1,OE (f p d).2.1 e.size,(f p d).2.2.1,(f p d).2.2.2.1,?_⟩⟩
 ·have⟨b,off,t,u,hc⟩:=h.2.2.2 h0;exact⟨b,off,t,OE u e.size,λq v F=>(ii (a:=⟨b,off+q,none⟩) (o ⟨b,off,none⟩ t)).trans (hc q v F)⟩
 ·have⟨r,s,i⟩:=(f p d).2.2.2.2;exact⟨r,s,(o p d).trans i⟩
theorem Oj{X:W_}(s:X.ownsRow j 67 11 (a,m,c) m (Z.flatMap De.cs))(F:m<=1000)(E:j<=X){x:De}(i:TypeId):∃f e d,H_ ((Builtin.append_ #[29,29] i #[(a,m,c),(X,1,1)]).run prog (X.alloc (.cells x.arr 67))=.ok (.slice (some f) (m+1) e) d)/\
 H_ (d.ownsRow j 67 11 (.slice (some f) (m+1) e) (m+1) ((Z++[x]).flatMap De.cs))/\H_ ((X.alloc (.cells x.arr 67)).grownBy d (Value.ownBlock (a,m,c))):=by
 have⟨v,B,y,p,D⟩:=info_parts DI;have t:=Bx.new X x.arr 67;have⟨r,d,A,h2,C,_⟩:=run_append_own_at (P:=prog) (X.alloc (.cells x.arr 67)) j 29 i 67 v _ 11 32 Tryz.underlying29 B y p D rfl (by decide) (a,m,c) m (Z.flatMap De.cs) (World.ownsRow.alloc s _) ⟨X,0,none⟩ 1 1 x.cs rfl (λh u z=>by
  rw[GT,m9,t.cell h];show x.cs.toArray[h]?=u
  rw[OB];exact z) (λu l=>by
  simp only[De.cs,ro,Um,or_false] at l;rcases l with rfl|rfl|rfl|rfl|rfl|rfl|rfl|rfl|rfl|rfl|rfl<;>rfl) (by unfold maxLen;omega) (by omega) (by simp;omega)
 have o:d.ownsRow j 67 11 r (m+1) ((Z++[x]).flatMap De.cs):=by rw[wt];simpa using h2
 rcases o.2 with ⟨_,q⟩|⟨g,cap,G,rfl,_⟩
 ·simp at q
 ·exact⟨_,cap,d,A,o,C⟩
theorem RX.more(X:RX v j n a m c q Z (Z++[Q]))(K:Q.ok)(h1:Z.length<300)(C:z.ownsRow (j+1) 67 11 (J,m+1,i) (m+1) ((Z++[Q]).flatMap De.cs))(l:(v.drew.alloc (.cells Q.arr 67)).grownBy z (Value.ownBlock (a,m,c))):
 RX (z.setCell (j,1) (J,m+1,i)) j n (some J) (m+1) i q (Z++[Q]) (Z++[Q])/\Below j v (z.setCell (j,1) (J,m+1,i))/\(∀k r,Bx v k r 65->Bx (z.setCell (j,1) (J,m+1,i)) k r 65)/\Below j v z/\Bx z j #[n,(a,m,c),.pointer q] 50:=by
 obtain⟨V,p⟩:∃V,V=z.setCell (j,1) (J,m+1,i):=⟨_,rfl⟩;rw[<-p];have F:=X.bx.lt;have x:∀k,Value.ownBlock (a,m,c)=some k->j+1<=k/\k<v.heap.size:=λk d=>World.ownsRow.lt X.row k d
 have f:OS v (v.drew.alloc (.cells Q.arr 67)):=(ce _ v).drew.trans (af (v:=v.drew));have t:∀k,k<v.heap.size->Value.ownBlock (a,m,c)≠some k->z.heap[k]?=v.heap[k]?:=λk d I=>(l.block k (OE d f.size) (λe=>I e.symm)).trans (f.block k d)
 have L:v<=z.heap.size:=OP f.size l.size;have D:∀k,k≠j->V.heap[k]?=z.heap[k]?:=λk d=>by rw[p];exact jp _ _ _ _ d
 have P:V=z.heap.size:=by rw[p];simp[World.setCell]
 have B:Bx z j #[n,(a,m,c),.pointer q] 50:=(t j F (λe=>by have:=(x j e).1;omega)).trans X.bx;have A:Kpd v V:=⟨by omega,λk r S R h1 h2 N=>by
  have d:=(co.1 h1).1;rw[D k (λe=>by rw[e,show v.heap[j]?=_ from X.bx] at h1;cases h1;exact N rfl)];refine t k d (λe=>?_);rcases X.row.2 with ⟨h,_⟩|⟨b,cap,E,h,_,u,_⟩
  ·rw[h] at e;cases e
  ·rw[h] at e;cases e;rw[u] at h1;cases h1;exact h2 rfl⟩
 have y:Below j v z:=⟨l.os.trans f.os,l.tape.trans f.tape,l.output.trans f.output,L,λk d=>t k (by omega) (λe=>by have:=(x k e).1;omega)⟩;refine⟨⟨by rw[p];exact B.set 1 _,by rw[OC,X.ml];rfl,?_,?_,X.n2,by rw[OC];simp;omega,λH o=>?_⟩,?_,λk r s=>(A.at_ k _ _ _ s (by decide) (by decide)).trans s,y,B⟩
 ·rcases C.2 with ⟨h,G⟩|⟨b,cap,E,h,s,u,M⟩
  ·simp at G
  ·exact⟨C.1,.inr ⟨b,cap,E,h,s,(D b (by omega)).trans u,M⟩⟩
 ·intro h1;have⟨O,e,hc⟩:=X.cl h1;exact⟨O,e,hc.vZ A⟩
 ·rcases ip.1 o with o|o
  ·exact X.ok H o
  ·rw[i5.1 o];exact K
 ·rw[p];exact y.setCell (OJ _) _
end
theorem Bx.c11{a:V_}(h:Bx v m #[u,G,F,C,A,s,p,o,f,e,a] I):v.cell? m=u/\v.cell? (m,1)=G/\v.cell? (m,2)=F/\v.cell? (m,3)=C/\v.cell? (m,4)=A/\v.cell? (m,5)=s/\v.cell? (m,6)=p/\v.cell? (m,7)=o/\v.cell? (m,8)=f/\v.cell? (m,9)=e/\v.cell? (m,10)=a:=⟨h.cell 0,h.cell 1,h.cell 2,h.cell 3,h.cell 4,h.cell 5,h.cell 6,h.cell 7,h.cell 8,h.cell 9,h.cell 10⟩
theorem Oo{ds:List De}{b:B8}(e:H_ (RX v j i a m c q ds (ds++[⟨x,y,t,d⟩])))(hx:H_ (De.ok ⟨x,y,t,d⟩))(O:1<=i)(R:H_ (ds.length<300))(f:H_ (Bx v h (De.arr ⟨x,y,t,d⟩) 67))(M:H_ (j<h/\Value.ownBlock (a,m,c)≠some h))(hk:H_ (OU v B b))(T:H_ (by8 b))(hP:H_ (∀V,RD V j i (ds++[⟨x,y,t,d⟩])->Below j v V->X (.returned (.string ⟨(if x=2 then fp b else Lib.itoa (hv i (ds++[⟨x,y,t,d⟩]):Nat)).toArray⟩)) V))(hs:U.size=230)(h0:U[0]?=(j,0))(A:U[8]?=(h,0))(s:U[16]?=(B,0)):
 aA Tryz.f14 X 12 ⟨U,[]⟩ v:=by
 have⟨ae,z⟩:=fi U;rw[hs] at z;simp only[List.range,List.range.loop,i7,rx] at z;subst z;simp only[OB,Oz,OA,Option.some.injEq] at h0 A s;rw[h0,A,s];clear h0 A s hs;have⟨J,F,E,D,S,G⟩:=Oj (X:=v.drew) (x:=⟨x,y,t,d⟩) (e.row) (by have:=e.m3;have:=e.ml;omega) (show j+1<=v from e.bx.lt) 29;have C:(Builtin.append_ #[29,29] 29 #[(a,m,c),(v,1,1)]).run prog ((v.alloc (.cells (De.arr ⟨x,y,t,d⟩) 67)).drew)=.ok (J,m+1,F) E:=D.o;have⟨l,o,p,P,r⟩:=e.more hx R S G;have l:=Y l;have o:=Y o;have p:=Y (p B _ hk);have N:=Y (show Bx (E.setCell (j,1) (J,m+1,F)) h (De.arr ⟨x,y,t,d⟩) 67 by
  refine(jp _ _ _ _ (λu=>by have e1:h=j:=u;have:=M.1;omega)).trans ?_;refine(G.block h (by simp;have:=f.lt;show h<v+1;omega) (λu=>M.2 u.symm)).trans ?_;exact(pi v.drew _ h f.lt).trans f)
 have y1:=r.cell 1;have yf:=r.frozen;have⟨z0,z1,z2⟩:=e.bx.three;have K:=f.o;simp only[De.arr] at C K;have⟨d0,d1,d2,d3,d4,d5,d6,d7,d8,d9,af⟩:=K.c11;simp only[OB,Oz,OA] at y1;have Q:j<v:=e.bx.lt;have ab:h<v:=f.lt;clear D P r;refine aj rfl ?_;intro ag Z;go_upto_region 61 with fail;go_region_law (first|(refine lh rfl (L:=.tmp 213) (I:=.tmp 215) rfl rfl rfl C ?_));all_goals
  refine Z _ _ (Met.intro (Oq (ds:=ds) (x:=⟨x,y,t,d⟩) (b:=b) (⟨_,_,_,_,l⟩) O N p T (Y (λV H=>?_)) rfl rfl rfl rfl));exact hP V (RD.later ⟨_,_,_,_,l⟩ H) (o.trans (H.mono (OP (TP Q) o.size)))
theorem Kd{n:Nat}{ae:List (List B8)}{now:List B8}{x:De}(h:doE n x≠0):doS ae now x=ae/\doN n ae now x=now/\doD n now x=zB:=by
 unfold doE cX at h;unfold doS doN doD dh gm;by_cases h1:x.kind=0\/x.kind=1\/x.kind=2
 ·rw[UY h1] at h;have h2:¬inP n x.at_:=λe=>h (UY e)
  simp only[UX h2,ite_self];refine⟨by rw[UX (by omega)],?_,trivial⟩;rw[UX (by omega:¬x.kind=8)];simp
 ·rw[UX h1] at h;have h2:¬(3<=x.kind/\x.kind<=10):=λe=>h (UY e)
  rw[UX (by omega),UX (by omega),UX (by omega),UX (by omega),UX (by omega)];exact⟨rfl,rfl,rfl⟩
structure Rb (W V:W_) (g n h k m c:Nat) (a cp:Option A_) (ds:List De) (x:De) (b:B8):Prop where
 kb:OU V k b
 hb:Bx V h x.arr 67
 bx:Bx V g #[.int .i64 (n:Int),.slice a m c,.pointer cp] 50
 row:V.ownsRow (g+1) 67 11 (.slice a m c) m (ds.flatMap De.cs)
 cl:∃K,cp=some ⟨K,0,none⟩/\ClW (g+1) V K n (Mx.doS (Mx.aC n ds).1 (Mx.aC n ds).2 x) (Mx.doN n (Mx.aC n ds).1 (Mx.aC n ds).2 x)
 bel:Below g W V
theorem MW(f:H_ (RX v j i a m c q Z Z))(hx:H_ (De.ok ⟨x,y,t,d⟩))(hn:1<=i)(J:H_ (Z.length<300))(R:H_ (j<h/\Value.ownBlock (a,m,c)≠some h))(e:H_ (Rb v z j i h B m c a q Z ⟨x,y,t,d⟩ D))(M:H_ (D=doD i (aC i Z).2 ⟨x,y,t,d⟩))(H:H_ (∀A z,RlP v j (aS i Z ⟨x,y,t,d⟩) A z->X A z))(G:H_ (E=doE i ⟨x,y,t,d⟩))(hs:U.size=230)(h0:U[0]?=(j,0))(r:U[8]?=(h,0))(u:U[15]?=Zb E)(p:U[16]?=(B,0)):
 aA Tryz.f14 X 11 ⟨U,[]⟩ z:=by
 have C:=vB i Z ⟨x,y,t,d⟩;have o:aS i Z ⟨x,y,t,d⟩=if E≠0 then⟨E,[],i,Z⟩ else⟨0,if x=2 then fp D else Lib.itoa (hv i (Z++[⟨x,y,t,d⟩]):Nat),i,Z++[⟨x,y,t,d⟩]⟩:=by
  unfold aS;rw[UX (by omega),UX (by have:=J.o;omega),<-G,<-M]
 by_cases h1:E=0
 ·rw[UX (by simp[h1])] at o;have F:=Y o;have H1:=Y h1;clear o C;refine aj rfl ?_;intro K S;have⟨N,l⟩:=fi U;rw[hs] at l;simp only[List.range,List.range.loop,i7,rx] at l;subst l;simp only[OB,Oz,OA,Option.some.injEq] at h0 r u p;rw[h0,r,u,p];have P:(E !=0)=false:=by simpa using h1
  have ab:H_ (by8 D):=(by rw[M];exact ze i f.ok);clear h0 r u p hs h1;go_wp2;refine Met.intro (Oo (ds:=Z) (b:=D) (⟨e.bx,f.ml,e.row,λ_=>?_,f.n2,f.m3,f.ok⟩) hx hn J (Y e.hb) R (Y e.kb) ab (Y (λV' hV T=>H _ _ ?_)) rfl rfl rfl rfl)
  ·rw[iX];exact e.cl
  ·rw[F];exact⟨rfl,hV,e.bel.trans T⟩
 ·rw[UY h1] at o;have F:=Y o;have O:0<=E/\E<=5:=by rw[o] at C;exact C
  obtain⟨s,hv⟩:∃s:Nat,E=(s:Int):=⟨E.toNat,by omega⟩;subst hv;have Q:=Y (eN s (by omega) z);have L:=Y (Kd (n:=i) (ae:=(aC i Z).1) (now:=(aC i Z).2) (x:=⟨x,y,t,d⟩) (by rw[<-G];exact h1));have P:((s:Int) !=0)=true:=by simpa using h1
  have ad:s≠0:=by omega
  clear o C O;refine aj rfl ?_;intro K S;have⟨N,l⟩:=fi U;rw[hs] at l;simp only[List.range,List.range.loop,i7,rx] at l;subst l;simp only[OB,Oz,OA,Option.some.injEq] at h0 r u p;rw[h0,r,u,p];clear h0 r u p hs h1;go_wp2_with fail;refine Q.mono ?_;rintro A V2 ⟨rfl,I⟩;go_wp2;refine H _ _ ?_;rw[F];refine⟨by unfold Out.tx;rw[UX (by show ¬(s:Int)=0;omega)];rfl,?_,e.bel.trans (I.mono (TP e.bx.lt))⟩;refine RD.later (w:=z) ⟨a,m,c,q,e.bx,f.ml,e.row,λ_=>?_,f.n2,f.m3,f.ok⟩ I;have⟨K,A,hc⟩:=e.cl;rw[L.1,L.2.1] at hc;exact⟨K,A,hc⟩
section
variable {W:W_}{g n:Nat}
theorem Bd.trans{R:Prop}{g d:Nat}{j b l:W_}(h:Bd R g d j b)(c:Bd R g d b l):Bd R g d j l:=
 ⟨h.bel.trans c.bel,λk a f e=>(c.de k a f ((h.de k a f e).trans e)).trans (h.de k a f e),λk a f e i=>(c.bl k a f ((h.bl k a f e i).trans e) i).trans (h.bl k a f e i),λr=>(h.rd r).trans ((c.rd r).mono (h.rd r).size)⟩
theorem Rb.made(X:RX W g n a m c (some ⟨i,0,none⟩) Z Z)(o:Bx W h Q.arr 67)(e:Bd H B (g+1) W v)(hc:ClW (g+1) v i n (doS (aC n Z).1 (aC n Z).2 Q) (doN n (aC n Z).1 (aC n Z).2 Q))(r:OU v j d):Rb W v g n h j m c a (some ⟨i,0,none⟩) Z Q d:=by
 refine⟨r,(e.de h _ _ o).trans o,X.bx.later e.bel (by omega),⟨X.row.1,?_⟩,⟨i,rfl,hc⟩,e.bel.mono (by omega)⟩;rcases X.row.2 with f|⟨p,cap,s,f,h1,l,q⟩
 ·exact .inl f
 ·exact .inr ⟨p,cap,s,f,h1,(e.de p _ _ l).trans l,q⟩
theorem On(r:H_ (RX W g n a m c q Z Z))(J:H_ (De.ok ⟨x,y,t,d⟩))(E:1<=n)(h3:H_ (Z.length<300))(ak:H_ (g<h/\Value.ownBlock (a,m,c)≠some h))(D:H_ (Bx W h (De.arr ⟨x,y,t,d⟩) 67))(hP:H_ (∀v V,RlP W g (aS n Z ⟨x,y,t,d⟩) v V->X v V))(hs:U.size=230)(h0:U[0]?=(g,0))(T:U[8]?=(h,0)):
 aA Tryz.f14 X 10 ⟨U,[]⟩ W:=by
 have⟨aE,N⟩:=fi U;rw[hs] at N;simp only[List.range,List.range.loop,i7,rx] at N;subst N;simp only[OB,Oz,OA,Option.some.injEq] at h0 T;rw[h0,T];clear h0 T hs;have⟨K,az,C,cC,vC,G⟩:=r.cl E;subst az;obtain⟨b,H⟩:∃b,H_ (b=doD n (aC n Z).2 ⟨x,y,t,d⟩):=⟨_,rfl⟩;obtain⟨ab,S⟩:∃ab,H_ (ab=doE n ⟨x,y,t,d⟩):=⟨_,rfl⟩;have ay:=nf n Z;have am:=kR n Z;have au:=r.m3;have ad:=Y (show ∀e,OS W e->C_ prog 42 #[(K,0),.agg (Zp x y t d)] e λv w'=>v=Zr #[Zb ab,b]/\H_ (ClW (g+1) w' K n (doS (aC n Z).1 (aC n Z).2 ⟨x,y,t,d⟩) (doN n (aC n Z).1 (aC n Z).2 ⟨x,y,t,d⟩))/\H_ (Bd (Rds x) C (g+1) e w') from λe J=>by
  rw[S];exact J8 (G.later J) E r.n2 (Ve:=hv n Z) (by unfold hv;omega) (by omega) H)
 have B:g<W:=r.bx.lt;have al:h<W:=D.lt;have z2:W.cell? (g,2)=(K,0):=r.bx.cell 2;have P:=D.o;simp only[De.arr] at P;have dd:=P.c11;have A:∀f,Bd (Rds x) C (g+1) W f->f.cell? (g,2)=(K,0)/\f.cell? h=Zb x/\f.cell? (h,1)=Zb y/\f.cell? (h,2)=Zb t/\f.cell? (h,3)=Za d.z0/\f.cell? (h,4)=Za d.z1/\f.cell? (h,5)=Za d.z2/\f.cell? (h,6)=Za d.z3/\f.cell? (h,7)=Za d.z4/\f.cell? (h,8)=Za d.z5/\f.cell? (h,9)=Za d.z6/\f.cell? (h,10)=Za d.z7:=λf u=>by
  have o:=u.de h _ _ D;have⟨d0,d1,d2,d3,d4,d5,d6,d7,d8,d9,aB⟩:=dd;exact⟨(u.bel.cell (p:=(g,2)) (Nat.lt_succ_self g)).trans z2,(ii (a:=⟨h,0,none⟩) o).trans d0,(ii (a:=⟨h,1,none⟩) o).trans d1,(ii (a:=⟨h,2,none⟩) o).trans d2,(ii (a:=⟨h,3,none⟩) o).trans d3,(ii (a:=⟨h,4,none⟩) o).trans d4,(ii (a:=⟨h,5,none⟩) o).trans d5,(ii (a:=⟨h,6,none⟩) o).trans d6,(ii (a:=⟨h,7,none⟩) o).trans d7,(ii (a:=⟨h,8,none⟩) o).trans d8,(ii (a:=⟨h,9,none⟩) o).trans d9,(ii (a:=⟨h,10,none⟩) o).trans aB⟩
 have b0:OS W W.drew:=(ce _ _).drew;have b1:OS W (W.alloc (.cells () 65)).drew:=(af).drew;have R:Bd (Rds x) C (g+1) W W.drew:=Bd.of b0 B;have O:Bd (Rds x) C (g+1) W (W.alloc (.cells () 65)).drew:=Bd.of b1 B;have C0:=Y G;have ar:¬W=g:=by omega
 have ap:¬W=h:=by omega
 have av:W≠C:=by have:=G.ng.2.2.1;omega
 clear G ay am au dd z2 P;refine aj rfl ?_;intro K9 ag;go_upto_region 58 with fail;go_region_held3 (λe=>e.cell? (g,2)=(K,0)/\e.cell? h=Zb x/\e.cell? (h,1)=Zb y/\e.cell? (h,2)=Zb t/\e.cell? (h,3)=Za d.z0/\e.cell? (h,4)=Za d.z1/\e.cell? (h,5)=Za d.z2/\e.cell? (h,6)=Za d.z3/\e.cell? (h,7)=Za d.z4/\e.cell? (h,8)=Za d.z5/\e.cell? (h,9)=Za d.z6/\e.cell? (h,10)=Za d.z7)
  (first|with_reducible assumption|with_reducible exact A _ R|with_reducible exact A _ O|(simp only[aq ae,aq ai];with_reducible exact F)|(simp only[an];with_reducible exact A _ R)|(simp only[an];with_reducible exact A _ O)|(simp only[aw ar,aw ap];with_reducible exact F)|(simp only[aw ax,aw ao,aq ae,aq ai];with_reducible exact F))
  (first|(go_at_call 42;(with_reducible refine(ad.o _ b0).mono ?_);rintro v l ⟨rfl,Q,I⟩;have s:=R.trans I;have F:=A _ s;have L:g+1<=l:=OP B s.bel.size;have ae:g<l:=L;have ai:h<l:=OE al s.bel.size;have ax:¬l=g:=(by omega);have ao:¬l=h:=(by omega))|(go_at_call 42;(with_reducible refine(ad.o _ b1).mono ?_);rintro v l ⟨rfl,Q,I⟩;have s:=O.trans I;have F:=A _ s;have L:g+1<=l:=OP B s.bel.size;have M:=Y (show OT l W from(I.bl W _ _ (Bx.dC W _ _) av).trans (Bx.dC W _ _));have⟨q0,q1,q2,q3,q4,q5,q6,q7,qz⟩:=jt M))
 ·exact ag _ _ (Met.intro (MW r J E h3 ak (Rb.made r D (s.later (af) L) (Q.later (af)) (Bx.new l _ _)) H hP S rfl rfl rfl rfl rfl))
 ·show Exit.then K9 _ _ _ (lr l W b);have f3:=s.ex (Ex.one (mi l W b)) L (λf u=>by rw[u];exact B) (λf u=>.inl (by rw[u];exact OJ _)) (λ_ f u=>by rw[u];exact OJ _);refine ag _ _ (Met.intro (MW r J E h3 ak (Rb.made r D f3 ?_ (sr M b)) H hP S rfl rfl rfl rfl rfl));by_cases ah:x=2
  ·have hc:ClW (g+1) (lr l W b) K n (aC n Z).1 (aC n Z).2:=⟨_,_,_,C0.later (f3.rd ah)⟩;unfold doS doN;rw[UX (by show ¬x=3;omega),UX (by show ¬x=0;omega),UX (by show ¬x=1;omega),UX (by show ¬x=8;omega)];exact hc
  ·have aD:b=zB:=by rw[H];unfold doD;rw[UX ah]
   rw[show lr l W b=l by rw[aD];exact iu (x:=zB) M];exact Q
end
theorem rl8(e:H_ (RX v j i a m c q Z Z))(L:H_ (De.ok ⟨x,y,t,d⟩))(N:H_ (j<h/\Value.ownBlock (a,m,c)≠some h))(M:H_ (Bx v h (De.arr ⟨x,y,t,d⟩) 67))(r:H_ (∀f V,RlP v j (aS i Z ⟨x,y,t,d⟩) f V->X f V))(hs:U.size=230)(h0:U[0]?=(j,0))(s:U[8]?=(h,0)):
 aA Tryz.f14 X 8 ⟨U,[]⟩ v:=by
 have⟨O,C⟩:=fi U;rw[hs] at C;simp only[List.range,List.range.loop,i7,rx] at C;subst C;simp only[OB,Oz,OA,Option.some.injEq] at h0 s;rw[h0,s];clear h0 s hs;have⟨E,H,B⟩:=e.bx.three;have A:=e.ml;have l:=e.m3;have G:=Y (show RD v j i Z from⟨a,m,c,q,e⟩);by_cases F:i=0
 ·have z:=Y (show aS i Z ⟨x,y,t,d⟩=⟨((5:Nat):Int),[],i,Z⟩ by unfold aS;rw[UY F];rfl);have u:=Y (eN 5 (by omega) v);have o:(i:Int)=0:=by omega
  clear A l H B;refine aj rfl ?_;intro K p;go_wp2_with fail;refine u.mono ?_;rintro f V ⟨rfl,D⟩;go_wp2;refine r _ _ ?_;rw[z];exact oB G (ce _ _) D (by decide)
 ·have o:¬(i:Int)=0:=by omega
  refine aj rfl ?_;intro K p;go_wp2;refine Met.intro (aj rfl ?_);try clear p K
  intro K p;by_cases P:m=300
  ·have z:=Y (show aS i Z ⟨x,y,t,d⟩=⟨((2:Nat):Int),[],i,Z⟩ by unfold aS;rw[UX F,UY (by omega)];rfl);have u:=Y (eN 2 (by omega) v);have I:(m:Int)=300:=by omega
   clear A l E B o;go_wp2_with fail;refine u.mono ?_;rintro f V ⟨rfl,D⟩;go_wp2;refine r _ _ ?_;rw[z];exact oB G (ce _ _) D (by decide)
  ·have I:¬(m:Int)=300:=by omega
   have J:=Y (show Z.length<300 by omega);clear A l E B o;go_wp2;exact Met.intro (On e L (by omega) J N M r rfl rfl rfl)
def many:List (Mx.Tx × V_):=[([110,101,119],.int .i64 1),([119,114,105,116,101],.int .i64 2),([116,114,105,109],.int .i64 1),([114,101,97,100],.int .i64 1),([98,97,114,114,105,101,114],.int .i64 0),([116,105,99,107],.int .i64 0),([100,101,108,105,118,101,114],.int .i64 1),([108,111,115,101],.int .i64 1),([100,111,117,98,108,101],.int .i64 1),([99,114,97,115,104],.int .i64 1),([115,101,116,116,108,101],.int .i64 0),([112,108,97,110],.int .i64 0)]
theorem Ks:(many.map (·.1)).Nodup:=by decide
theorem eP:∀x∈many,x.1.length<=10:=by
 intro x a;have h:(many.map (λx=>x.1.length)).all (·<=10)=true:=by decide
 exact UT (Nm.1 h _ (TM a))
theorem Ef(s:Tx):many.findIdx? (λx=>x.1==s)=wds.findIdx? (λx=>x.1==s):=by
 have h1:∀l:List (Tx×V_),l.findIdx? (λx=>x.1==s)=(l.map (·.1)).findIdx? (·==s):=λl=>by rw[List.findIdx?_map];rfl
 have h2:∀l:List (Tx×Nat),l.findIdx? (λx=>x.1==s)=(l.map (·.1)).findIdx? (·==s):=λl=>by rw[List.findIdx?_map];rfl
 rw[h1,h2];rfl
theorem Kr(a:m<12)(z:V_):(many.getD m ([],z)).2=.int .i64 (((wds.getD m ([],0)).2:Nat):Int):=by
 match m,a with
 |0,_=>rfl
 |1,_=>rfl
 |2,_=>rfl
 |3,_=>rfl
 |4,_=>rfl
 |5,_=>rfl
 |6,_=>rfl
 |7,_=>rfl
 |8,_=>rfl
 |9,_=>rfl
 |10,_=>rfl
 |11,_=>rfl
theorem MX(I:H_ (∀t:Array V_,t.size=230->t[0]?=(m,0)->t[1]?=(j,i,h,c)->t[5]?=some (.map (some v))->aA Tryz.f14 X 2 ⟨t,[]⟩ (v.alloc (.map (ent 0 many).toArray 12)))):
 C_ prog 14 #[(m,0),(j,i,h,c)] v X:=by
 have hm:=run_makeMap (P:=prog) 62 v;have r:=cd (w:=v) Tryz.underlying62 (many.take 0) [110,101,119] (Zb 1) (by decide) (λx a=>eP x (f9 (i:=1) a));rw[show(many.take 0).length=0 from rfl,show many.take 0++[_]=many.take 1 from rfl] at r;rw[show(v.alloc (.map (ent 0 (many.take 0)).toArray 0))=v.alloc (.map #[] 0) from rfl] at r;obtain⟨Z,A⟩:∃W:W_,H_ (W=v.alloc (.map (ent 0 (many.take 1)).toArray (0+1))):=⟨_,rfl⟩;rw[<-A] at r;have e:=cd (w:=v) Tryz.underlying62 (many.take 1) [119,114,105,116,101] (Zb 2) (by decide) (λx a=>eP x (f9 (i:=2) a));rw[show(many.take 1).length=1 from rfl,show many.take 1++[_]=many.take 2 from rfl] at e;obtain⟨U,D⟩:∃W:W_,H_ (W=v.alloc (.map (ent 0 (many.take 2)).toArray (1+1))):=⟨_,rfl⟩;rw[<-D] at e;rw[show(1:Nat)=0+1 from rfl,<-A] at e;have p:=cd (w:=v) Tryz.underlying62 (many.take 2) [116,114,105,109] (Zb 1) (by decide) (λx a=>eP x (f9 (i:=3) a));rw[show(many.take 2).length=2 from rfl,show many.take 2++[_]=many.take 3 from rfl] at p;obtain⟨W3,G⟩:∃W:W_,H_ (W=v.alloc (.map (ent 0 (many.take 3)).toArray (2+1))):=⟨_,rfl⟩;rw[<-G] at p;rw[show(2:Nat)=1+1 from rfl,<-D] at p;have s:=cd (w:=v) Tryz.underlying62 (many.take 3) [114,101,97,100] (Zb 1) (by decide) (λx a=>eP x (f9 (i:=4) a));rw[show(many.take 3).length=3 from rfl,show many.take 3++[_]=many.take 4 from rfl] at s;obtain⟨R,K⟩:∃W:W_,H_ (W=v.alloc (.map (ent 0 (many.take 4)).toArray (3+1))):=⟨_,rfl⟩;rw[<-K] at s;rw[show(3:Nat)=2+1 from rfl,<-G] at s;have l:=cd (w:=v) Tryz.underlying62 (many.take 4) [98,97,114,114,105,101,114] (Zb 0) (by decide) (λx a=>eP x (f9 (i:=5) a));rw[show(many.take 4).length=4 from rfl,show many.take 4++[_]=many.take 5 from rfl] at l;obtain⟨W5,L⟩:∃W:W_,H_ (W=v.alloc (.map (ent 0 (many.take 5)).toArray (4+1))):=⟨_,rfl⟩;rw[<-L] at l;rw[show(4:Nat)=3+1 from rfl,<-K] at l;have f:=cd (w:=v) Tryz.underlying62 (many.take 5) [116,105,99,107] (Zb 0) (by decide) (λx a=>eP x (f9 (i:=6) a));rw[show(many.take 5).length=5 from rfl,show many.take 5++[_]=many.take 6 from rfl] at f;obtain⟨S,F⟩:∃W:W_,H_ (W=v.alloc (.map (ent 0 (many.take 6)).toArray (5+1))):=⟨_,rfl⟩;rw[<-F] at f;rw[show(5:Nat)=4+1 from rfl,<-L] at f;have y:=cd (w:=v) Tryz.underlying62 (many.take 6) [100,101,108,105,118,101,114] (Zb 1) (by decide) (λx a=>eP x (f9 (i:=7) a));rw[show(many.take 6).length=6 from rfl,show many.take 6++[_]=many.take 7 from rfl] at y;obtain⟨W7,C⟩:∃W:W_,H_ (W=v.alloc (.map (ent 0 (many.take 7)).toArray (6+1))):=⟨_,rfl⟩;rw[<-C] at y;rw[show(6:Nat)=5+1 from rfl,<-F] at y;have q:=cd (w:=v) Tryz.underlying62 (many.take 7) [108,111,115,101] (Zb 1) (by decide) (λx a=>eP x (f9 (i:=8) a));rw[show(many.take 7).length=7 from rfl,show many.take 7++[_]=many.take 8 from rfl] at q;obtain⟨W8,E⟩:∃W:W_,H_ (W=v.alloc (.map (ent 0 (many.take 8)).toArray (7+1))):=⟨_,rfl⟩;rw[<-E] at q;rw[show(7:Nat)=6+1 from rfl,<-C] at q;have z:=cd (w:=v) Tryz.underlying62 (many.take 8) [100,111,117,98,108,101] (Zb 1) (by decide) (λx a=>eP x (f9 (i:=9) a));rw[show(many.take 8).length=8 from rfl,show many.take 8++[_]=many.take 9 from rfl] at z;obtain⟨T,M⟩:∃W:W_,H_ (W=v.alloc (.map (ent 0 (many.take 9)).toArray (8+1))):=⟨_,rfl⟩;rw[<-M] at z;rw[show(8:Nat)=7+1 from rfl,<-E] at z;have o:=cd (w:=v) Tryz.underlying62 (many.take 9) [99,114,97,115,104] (Zb 1) (by decide) (λx a=>eP x (f9 (i:=10) a));rw[show(many.take 9).length=9 from rfl,show many.take 9++[_]=many.take 10 from rfl] at o;obtain⟨Q,O⟩:∃W:W_,H_ (W=v.alloc (.map (ent 0 (many.take 10)).toArray (9+1))):=⟨_,rfl⟩;rw[<-O] at o;rw[show(9:Nat)=8+1 from rfl,<-M] at o;have d:=cd (w:=v) Tryz.underlying62 (many.take 10) [115,101,116,116,108,101] (Zb 0) (by decide) (λx a=>eP x (f9 (i:=11) a));rw[show(many.take 10).length=10 from rfl,show many.take 10++[_]=many.take 11 from rfl] at d;obtain⟨Y,J⟩:∃W:W_,H_ (W=v.alloc (.map (ent 0 (many.take 11)).toArray (10+1))):=⟨_,rfl⟩;rw[<-J] at d;rw[show(10:Nat)=9+1 from rfl,<-O] at d;have u:=cd (w:=v) Tryz.underlying62 (many.take 11) [112,108,97,110] (Zb 0) (by decide) (λx a=>eP x (f9 (i:=12) a));rw[show(many.take 11).length=11 from rfl,show many.take 11++[_]=many.take 12 from rfl] at u;obtain⟨P,B⟩:∃W:W_,H_ (W=v.alloc (.map (ent 0 (many.take 12)).toArray (11+1))):=⟨_,rfl⟩;rw[<-B] at u;rw[show(11:Nat)=10+1 from rfl,<-J] at u;rw[show v.alloc (.map (ent 0 many).toArray 12)=P from B.symm] at I;go_enter func14,ntmps14;change aA Tryz.f14 X 0 _ v;refine aj rfl ?_;intro N H;go_wp2;refine Met.intro (aj rfl ?_);try clear H N
 intro N H;go_wp2;exact Met.intro (I _ rfl rfl rfl rfl)
section
variable {w W:W_}{g n b off:Nat}
structure Rw (w W:W_) (g n:Nat) (ds:List De) (b off:Nat) (ws:List ByteArray):Prop where
 rd:RD w g n ds
 bel:OS w W
 lt:b<W.heap.size
 at_:∀(j:Nat) x,ws[j]?=some x->W.cell? ⟨b,off+j,none⟩=some (.string x)
theorem Rw.later(h:Rw w W g n Z b off T)(a:OS W v):Rw w v g n Z b off T:=
 ⟨h.rd,h.bel.trans (a.mono h.bel.size),OE h.lt a.size,λj x c=>(a.cell (p:=(b,off+j)) h.lt).trans (h.at_ j x c)⟩
theorem Rw.set(h:Rw w W g n Z b off T)(c:w<=m)(a:b≠m)(i:Nat)(v:V_):Rw w (W.setCell (m,i) v) g n Z b off T:=
 ⟨h.rd,h.bel.setCell c v,by simpa[World.setCell] using h.lt,λj x d=>(World.cell?_setCell_far W ⟨m,i,none⟩ ⟨b,off+j,none⟩ v (λe=>a e.symm)).trans (h.at_ j x d)⟩
theorem Rw.rdW(h:Rw w W g n Z b off T):RD W g n Z:=h.rd.later h.bel
theorem jj(H:H_ (Rw w W g n Z b off (S::P::T)))(Q:(S.toList==[99,114,97,115,104])=false)(hC:0<j)(L:2<=m)(A:H_ (cr (tx P)≠0->∀e V,RlP w g ⟨3,[],n,Z⟩ e V->X e V))(s:H_ (cr (tx P)=0->∀V h (U:Array V_),Rw w V g n Z b off (S::P::T)->Bx V h (De.arr ⟨0,(bZ (tx P):Int),0,zB⟩) 67->w<=h->b≠h->U.size=230->U[0]?=(g,0)->U[1]?=(b,off,m,c)->U[8]?=(h,0)->U[9]?=Zb (bZ (tx P):Int)->aA Tryz.f14 X 7 ⟨U,[]⟩ V))(hs:U.size=230)(h0:U[0]?=(g,0))(h1:U[1]?=(b,off,m,c))(q:U[6]?=Zb (j:Int)):
 aA Tryz.f14 X 4 ⟨U,[]⟩ W:=by
 have⟨z,l⟩:=fi U;rw[hs] at l;simp only[List.range,List.range.loop,i7,rx] at l;subst l;simp only[OB,Oz,OA,Option.some.injEq] at h0 h1 q;rw[h0,h1,q];clear h0 h1 q hs;have⟨V,p⟩:=ZX (W.alloc (.cells Zk 67));have D:=beA p;have B:=bxA p;have d:=Y (H.later D);have u:=d.at_ 0 _ rfl;have G:=d.at_ 1 _ rfl;rw[wn] at u;have N:(0:Int)<j:=by omega
 have O:(0:Int)<m:=by omega
 have F:(1:Int)<m:=by omega
 have I:0<m:=by omega
 have M:1<m:=by omega
 have y:=B.cell 1;have J:=B.frozen;simp only[OB,Oz,OA] at y;have i:=Y (Gb (V:=P) (v:=V));obtain⟨v,x⟩:∃v,H_ (v=bZ (tx P)):=⟨_,rfl⟩;rw[<-x] at i s;have E:=Y (eN 3 (by omega) V);refine aj rfl ?_;intro K f;go_wp2;rw[<-p];refine Met.intro (aj rfl ?_);try clear f K
 intro K f;go_wp2;refine Met.intro (aj rfl ?_);try clear f K
 intro K f;go_wp2_with fail;refine i.mono ?_;rintro e C ⟨rfl,r⟩;rw[r];clear r C i;by_cases a:cr (tx P)=0
 ·rw[show decide (cr (tx P)=0)=true by simpa using a];have o:=Y a;clear a;go_wp2;refine Met.intro (s o _ W _ (d.set H.bel.size (Nat.ne_of_lt H.lt) 1 _) (B.set 1 _) H.bel.size (Nat.ne_of_lt H.lt) rfl rfl rfl rfl rfl)
 ·rw[show decide (cr (tx P)=0)=false by simpa using a];have o:=Y a;clear a;go_wp2_with fail;refine E.mono ?_;rintro e R ⟨rfl,t⟩;go_wp2;exact A o _ _ (oB (u:=3) d.rd d.bel t (by decide))
theorem lZ(H:H_ (Rw w W g n Z b off (S::T)))(o:j=0\/(S.toList==[99,114,97,115,104])=true)(r:1<=m)(l:H_ (∀V h (U:Array V_),Rw w V g n Z b off (S::T)->Bx V h (De.arr ⟨0,0,0,zB⟩) 67->w<=h->b≠h->U.size=230->U[0]?=(g,0)->U[1]?=(b,off,m,c)->U[8]?=(h,0)->aA Tryz.f14 X 7 ⟨U,[]⟩ V))(hs:U.size=230)(h0:U[0]?=(g,0))(h1:U[1]?=(b,off,m,c))(e:U[6]?=Zb (j:Int)):
 aA Tryz.f14 X 4 ⟨U,[]⟩ W:=by
 have⟨u,i⟩:=fi U;rw[hs] at i;simp only[List.range,List.range.loop,i7,rx] at i;subst i;simp only[OB,Oz,OA,Option.some.injEq] at h0 h1 e;rw[h0,h1,e];clear h0 h1 e hs;have⟨V,d⟩:=ZX (W.alloc (.cells Zk 67));have D:=beA d;have B:=bxA d;have f:=Y (H.later D);have p:=f.at_ 0 _ rfl;rw[wn] at p;have v:(0:Int)<m:=by omega
 have q:0<m:=by omega
 refine aj rfl ?_;intro K a;go_wp2;rw[<-d];refine Met.intro (aj rfl ?_);try clear a K
 intro K a;go_wp2;refine Met.intro (aj rfl ?_);try clear a K
 intro K a;by_cases h0:j=0
 ·subst h0;go_wp2;exact Met.intro (l _ W _ f B H.bel.size (Nat.ne_of_lt H.lt) rfl rfl rfl rfl)
 ·have s:(0:Int)<j:=by omega
  have x:0<j:=by omega
  have t:(S.toList==[99,114,97,115,104])=true:=o.resolve_left h0;clear o h0;go_wp2;exact Met.intro (l _ W _ f B H.bel.size (Nat.ne_of_lt H.lt) rfl rfl rfl rfl)
end
section
variable {w V:W_}{g n b off:Nat}
theorem jr{kd at_ fr:Int}{d:B8}(H:Rw w V g n Z b off T)(B:Bx V h (De.arr ⟨kd,at_,fr,d⟩) 67)(r:w<=h)(m:De.ok ⟨kd,at_,fr,d⟩)(j:H_ (∀e V,RlP w g (aS n Z ⟨kd,at_,fr,d⟩) e V->X e V))(hs:U.size=230)(h0:U[0]?=(g,0))(l:U[8]?=(h,0)):aA Tryz.f14 X 8 ⟨U,[]⟩ V:=by
 have⟨o,p,c,q,a⟩:=H.rd;have f:=a.bx.lt;exact rl8 (a.later H.bel) (Y m) (⟨by omega,λe=>by have:=(World.ownsRow.lt a.row h e).2;omega⟩) (Y B) (Y (λe i h=>j e i ⟨h.1,h.2.1,(H.bel.mono (TP f)).trans h.2.2⟩)) hs h0 l
theorem Ls(H:H_ (Rw w V g n Z b off (⟨#[116,114,105,109]⟩::T)))(B:H_ (Bx V h (De.arr ⟨0,x,0,zB⟩) 67))(i:w<=h)(j:b≠h)(p:H_ (De.ok ⟨1,x,0,zB⟩))(v:1<=m)(o:H_ (∀f V,RlP w g (aS n Z ⟨1,x,0,zB⟩) f V->X f V))(hs:U.size=230)(h0:U[0]?=(g,0))(h1:U[1]?=(b,off,m,c))(a:U[8]?=(h,0)):aA Tryz.f14 X 7 ⟨U,[]⟩ V:=by
 have⟨u,e⟩:=fi U;rw[hs] at e;simp only[List.range,List.range.loop,i7,rx] at e;subst e;simp only[OB,Oz,OA,Option.some.injEq] at h0 h1 a;rw[h0,h1,a];clear h0 h1 a hs;have l:=H.at_ 0 _ rfl;rw[wn] at l;have q:=B.cell 0;have t:=B.frozen;simp only[De.arr,OB,Oz] at q;have y:(0:Int)<m:=by omega
 have r:0<m:=by omega
 refine aj rfl ?_;intro K s;go_wp2;exact Met.intro (jr (kd:=1) (at_:=x) (fr:=0) (d:=zB) (H.set i j 0 _) (B.set 0 (Zb 1)) i p o rfl rfl rfl)
theorem Lq(H:H_ (Rw w V g n Z b off (⟨#[114,101,97,100]⟩::T)))(B:H_ (Bx V h (De.arr ⟨0,x,0,zB⟩) 67))(i:w<=h)(j:b≠h)(p:H_ (De.ok ⟨2,x,0,zB⟩))(v:1<=m)(o:H_ (∀f V,RlP w g (aS n Z ⟨2,x,0,zB⟩) f V->X f V))(hs:U.size=230)(h0:U[0]?=(g,0))(h1:U[1]?=(b,off,m,c))(a:U[8]?=(h,0)):aA Tryz.f14 X 7 ⟨U,[]⟩ V:=by
 have⟨u,e⟩:=fi U;rw[hs] at e;simp only[List.range,List.range.loop,i7,rx] at e;subst e;simp only[OB,Oz,OA,Option.some.injEq] at h0 h1 a;rw[h0,h1,a];clear h0 h1 a hs;have l:=H.at_ 0 _ rfl;rw[wn] at l;have q:=B.cell 0;have t:=B.frozen;simp only[De.arr,OB,Oz] at q;have y:(0:Int)<m:=by omega
 have r:0<m:=by omega
 refine aj rfl ?_;intro K s;go_wp2;exact Met.intro (jr (kd:=2) (at_:=x) (fr:=0) (d:=zB) (H.set i j 0 _) (B.set 0 (Zb 2)) i p o rfl rfl rfl)
theorem Cm{v:Int}(H:H_ (Rw w V g n Z b off (⟨#[98,97,114,114,105,101,114]⟩::T)))(B:H_ (Bx V h (De.arr ⟨0,v,0,zB⟩) 67))(i:w<=h)(j:b≠h)(p:H_ (De.ok ⟨3,v,0,zB⟩))(x:1<=m)(o:H_ (∀f V,RlP w g (aS n Z ⟨3,v,0,zB⟩) f V->X f V))(hs:U.size=230)(h0:U[0]?=(g,0))(h1:U[1]?=(b,off,m,c))(a:U[8]?=(h,0)):aA Tryz.f14 X 7 ⟨U,[]⟩ V:=by
 have⟨u,e⟩:=fi U;rw[hs] at e;simp only[List.range,List.range.loop,i7,rx] at e;subst e;simp only[OB,Oz,OA,Option.some.injEq] at h0 h1 a;rw[h0,h1,a];clear h0 h1 a hs;have l:=H.at_ 0 _ rfl;rw[wn] at l;have q:=B.cell 0;have t:=B.frozen;simp only[De.arr,OB,Oz] at q;have y:(0:Int)<m:=by omega
 have r:0<m:=by omega
 refine aj rfl ?_;intro K s;go_wp2;exact Met.intro (jr (kd:=3) (at_:=v) (fr:=0) (d:=zB) (H.set i j 0 _) (B.set 0 (Zb 3)) i p o rfl rfl rfl)
theorem Lr{v:Int}(H:H_ (Rw w V g n Z b off (⟨#[116,105,99,107]⟩::T)))(B:H_ (Bx V h (De.arr ⟨0,v,0,zB⟩) 67))(i:w<=h)(j:b≠h)(p:H_ (De.ok ⟨4,v,0,zB⟩))(x:1<=m)(o:H_ (∀f V,RlP w g (aS n Z ⟨4,v,0,zB⟩) f V->X f V))(hs:U.size=230)(h0:U[0]?=(g,0))(h1:U[1]?=(b,off,m,c))(a:U[8]?=(h,0)):aA Tryz.f14 X 7 ⟨U,[]⟩ V:=by
 have⟨u,e⟩:=fi U;rw[hs] at e;simp only[List.range,List.range.loop,i7,rx] at e;subst e;simp only[OB,Oz,OA,Option.some.injEq] at h0 h1 a;rw[h0,h1,a];clear h0 h1 a hs;have l:=H.at_ 0 _ rfl;rw[wn] at l;have q:=B.cell 0;have t:=B.frozen;simp only[De.arr,OB,Oz] at q;have y:(0:Int)<m:=by omega
 have r:0<m:=by omega
 refine aj rfl ?_;intro K s;go_wp2;exact Met.intro (jr (kd:=4) (at_:=v) (fr:=0) (d:=zB) (H.set i j 0 _) (B.set 0 (Zb 4)) i p o rfl rfl rfl)
theorem Co(H:H_ (Rw w V g n Z b off (⟨#[100,101,108,105,118,101,114]⟩::T)))(B:H_ (Bx V h (De.arr ⟨0,x,0,zB⟩) 67))(i:w<=h)(j:b≠h)(p:H_ (De.ok ⟨5,x,0,zB⟩))(v:1<=m)(o:H_ (∀f V,RlP w g (aS n Z ⟨5,x,0,zB⟩) f V->X f V))(hs:U.size=230)(h0:U[0]?=(g,0))(h1:U[1]?=(b,off,m,c))(a:U[8]?=(h,0)):aA Tryz.f14 X 7 ⟨U,[]⟩ V:=by
 have⟨u,e⟩:=fi U;rw[hs] at e;simp only[List.range,List.range.loop,i7,rx] at e;subst e;simp only[OB,Oz,OA,Option.some.injEq] at h0 h1 a;rw[h0,h1,a];clear h0 h1 a hs;have l:=H.at_ 0 _ rfl;rw[wn] at l;have q:=B.cell 0;have t:=B.frozen;simp only[De.arr,OB,Oz] at q;have y:(0:Int)<m:=by omega
 have r:0<m:=by omega
 refine aj rfl ?_;intro K s;go_wp2;exact Met.intro (jr (kd:=5) (at_:=x) (fr:=0) (d:=zB) (H.set i j 0 _) (B.set 0 (Zb 5)) i p o rfl rfl rfl)
theorem Lo(H:H_ (Rw w V g n Z b off (⟨#[108,111,115,101]⟩::T)))(B:H_ (Bx V h (De.arr ⟨0,x,0,zB⟩) 67))(i:w<=h)(j:b≠h)(p:H_ (De.ok ⟨6,x,0,zB⟩))(v:1<=m)(o:H_ (∀f V,RlP w g (aS n Z ⟨6,x,0,zB⟩) f V->X f V))(hs:U.size=230)(h0:U[0]?=(g,0))(h1:U[1]?=(b,off,m,c))(a:U[8]?=(h,0)):aA Tryz.f14 X 7 ⟨U,[]⟩ V:=by
 have⟨u,e⟩:=fi U;rw[hs] at e;simp only[List.range,List.range.loop,i7,rx] at e;subst e;simp only[OB,Oz,OA,Option.some.injEq] at h0 h1 a;rw[h0,h1,a];clear h0 h1 a hs;have l:=H.at_ 0 _ rfl;rw[wn] at l;have q:=B.cell 0;have t:=B.frozen;simp only[De.arr,OB,Oz] at q;have y:(0:Int)<m:=by omega
 have r:0<m:=by omega
 refine aj rfl ?_;intro K s;go_wp2;exact Met.intro (jr (kd:=6) (at_:=x) (fr:=0) (d:=zB) (H.set i j 0 _) (B.set 0 (Zb 6)) i p o rfl rfl rfl)
theorem FY(H:H_ (Rw w V g n Z b off (⟨#[100,111,117,98,108,101]⟩::T)))(B:H_ (Bx V h (De.arr ⟨0,x,0,zB⟩) 67))(i:w<=h)(j:b≠h)(p:H_ (De.ok ⟨7,x,0,zB⟩))(v:1<=m)(o:H_ (∀f V,RlP w g (aS n Z ⟨7,x,0,zB⟩) f V->X f V))(hs:U.size=230)(h0:U[0]?=(g,0))(h1:U[1]?=(b,off,m,c))(a:U[8]?=(h,0)):aA Tryz.f14 X 7 ⟨U,[]⟩ V:=by
 have⟨u,e⟩:=fi U;rw[hs] at e;simp only[List.range,List.range.loop,i7,rx] at e;subst e;simp only[OB,Oz,OA,Option.some.injEq] at h0 h1 a;rw[h0,h1,a];clear h0 h1 a hs;have l:=H.at_ 0 _ rfl;rw[wn] at l;have q:=B.cell 0;have t:=B.frozen;simp only[De.arr,OB,Oz] at q;have y:(0:Int)<m:=by omega
 have r:0<m:=by omega
 refine aj rfl ?_;intro K s;go_wp2;exact Met.intro (jr (kd:=7) (at_:=x) (fr:=0) (d:=zB) (H.set i j 0 _) (B.set 0 (Zb 7)) i p o rfl rfl rfl)
end
section
variable {V:W_}
theorem LP(B:Bx V h (De.arr ⟨0,x,0,zB⟩) 67):Bx (aV (V.setCell h (Zb 0)) h 3 d) h (De.arr ⟨0,x,0,d⟩) 67:=by
 unfold aV;have a:=((((((((B.set 0 (Zb 0)).set 3 (Za d.z0)).set 4 (Za d.z1)).set 5 (Za d.z2)).set 6 (Za d.z3)).set 7 (Za d.z4)).set 8 (Za d.z5)).set 9 (Za d.z6)).set 10 (Za d.z7);simp only[De.arr,sp,Do,Eq] at a;exact a
theorem Rw.aV{w W:W_}{g n:Nat}{e:List De}{b off:Nat}{d:List ByteArray}(h:Rw w W g n e b off d){k:Nat}(c:w<=k)(a:b≠k)(i:Nat)(f:B8):Rw w (aV W k i f) g n e b off d:=by
 unfold Go.Proofs.YtgklbhiamepfoaaGreatDoor.aV;exact(((((((h.set c a _ _).set c a _ _).set c a _ _).set c a _ _).set c a _ _).set c a _ _).set c a _ _).set c a _ _
theorem Jk(H:H_ (Rw v V m j Z i B (⟨#[119,114,105,116,101]⟩::P::[S])))(p:H_ (Bx V h (De.arr ⟨0,x,0,zB⟩) 67))(q:v<=h)(E:i≠h)(C:0<=x/\x<1000000)(T:O=3)(t:H_ (eo (tx S)≠0->∀e V,RlP v m ⟨3,[],j,Z⟩ e V->X e V))(f:H_ (eo (tx S)=0->∀e V,RlP v m (aS j Z ⟨0,x,0,fG (tx S)⟩) e V->X e V))(hs:U.size=230)(h0:U[0]?=(m,0))(h1:U[1]?=(i,B,O,c))(l:U[8]?=(h,0)):aA Tryz.f14 X 7 ⟨U,[]⟩ V:=by
 subst T;have⟨Q,s⟩:=fi U;rw[hs] at s;simp only[List.range,List.range.loop,i7,rx] at s;subst s;simp only[OB,Oz,OA,Option.some.injEq] at h0 h1 l;rw[h0,h1,l];clear h0 h1 l hs;have N:=H.at_ 0 _ rfl;have w2:=H.at_ 2 _ rfl;rw[wn] at N;obtain⟨d,hd⟩:∃d,H_ (d=fG (tx S)):=⟨_,rfl⟩;have A:=Y (BX (v:=V) hd);have D:=Y C;clear C;refine aj rfl ?_;intro af hK;go_wp2_with fail;refine A.mono ?_;rintro e I ⟨rfl,y⟩;have⟨K,o⟩:=ZX (I.alloc (.cells d 65));have z:H_ (OS V K):=(by rw[o];exact y.alloc y.size _);have L:=bxA o;have r:=Y (H.later z);have G:=Y (p.later z p.lt);have ab:=Y (eN 3 (by omega) K);clear A;by_cases a:eo (tx S)=0
 ·rw[show decide (eo (tx S)=0)=true by simpa using a];have f:=Y (f a);rw[<-hd] at f;have R:H_ (by8 d):=(by rw[hd];exact vk _);clear a;go_upto_region 30 with fail;rw[<-o];have⟨y0,y1,y2,y3,y4,y5,y6,y7⟩:=L.eight;have u:=G.o;simp only[De.arr] at u;have dz:=u.frozen;have⟨d0,d1,d2,d3,d4,d5,d6,d7,d8,d9,ad⟩:=u.c11;have ae:¬h=I:=λe=>by have h9:=p.lt;have l:=y.size;omega
  have F:=Y (LP G (d:=d));have J:=Y ((r.set q E 0 (Zb 0)).aV q E 3 d);unfold Go.Proofs.YtgklbhiamepfoaaGreatDoor.aV at F J;go_wp2;exact Met.intro (jr (kd:=0) (at_:=x) (fr:=0) (d:=d) J F q ⟨by show(-9223372036854775808:Int)<=x;have:=D.o;omega,by show x<=9223372036854775807;have:=D.o;omega,by show(-9223372036854775808:Int)<=0;omega,by show(0:Int)<=9223372036854775807;omega,R⟩ f rfl rfl rfl)
 ·rw[show decide (eo (tx S)=0)=false by simpa using a];have t:=Y (t a);clear a;go_upto_region 30 with fail;rw[<-o];go_wp2_with fail;refine ab.mono ?_;rintro e V3 ⟨rfl,M⟩;go_wp2;exact t _ _ (oB (u:=3) r.rd r.bel M (by decide))
end
section
variable {w V:W_}{g n b off:Nat}
theorem Jj(H:H_ (Rw w V g n Z b off (⟨#[99,114,97,115,104]⟩::[S])))(B:H_ (Bx V h (De.arr ⟨0,0,0,zB⟩) 67))(f:w<=h)(i:b≠h)(s:m=2)(a:H_ (∀o V,RlP w g (cmd n Z 9 (tx S) []) o V->X o V))(hs:U.size=230)(h0:U[0]?=(g,0))(h1:U[1]?=(b,off,m,c))(j:U[8]?=(h,0)):aA Tryz.f14 X 7 ⟨U,[]⟩ V:=by
 subst s;have⟨u,p⟩:=fi U;rw[hs] at p;simp only[List.range,List.range.loop,i7,rx] at p;subst p;simp only[OB,Oz,OA,Option.some.injEq] at h0 h1 j;rw[h0,h1,j];clear h0 h1 j hs;have r:=H.at_ 0 _ rfl;have z:=H.at_ 1 _ rfl;rw[wn] at r;have l:=Y (ByteArray.toList_eq S);have v:=B.cell 0;have y:=B.frozen;simp only[De.arr,OB,Oz] at v;refine aj rfl ?_;intro K x;cases hf:(S.toList==[102,105,114,115,116])
 ·cases hg:(S.toList==[111,116,104,101,114])
  ·have e:=Y (show cmd n Z 9 (tx S) []=⟨3,[],n,Z⟩ by
    rw[l] at hf hg;unfold cmd;rw[UX (by simpa using hf),UX (by simpa using hg)];rfl)
   have t:=Y (eN 3 (by omega) V);go_wp2_with fail;refine t.mono ?_;rintro o A ⟨rfl,q⟩;go_wp2;refine a _ _ ?_;rw[e];exact oB (u:=3) H.rd H.bel q (by decide)
  ·have e:=Y (show cmd n Z 9 (tx S) []=aS n Z ⟨9,0,0,zB⟩ by
    rw[l] at hf hg;unfold cmd;rw[UX (by simpa using hf),UY (by simpa using hg)];rfl)
   rw[e] at a;go_wp2;exact Met.intro (jr (kd:=9) (at_:=0) (fr:=0) (d:=zB) (H.set f i 0 _) (B.set 0 (Zb 9)) f ⟨by show(-9223372036854775808:Int)<=0;omega,by show(0:Int)<=9223372036854775807;omega,by show(-9223372036854775808:Int)<=0;omega,by show(0:Int)<=9223372036854775807;omega,bW⟩ a rfl rfl rfl)
 ·have e:=Y (show cmd n Z 9 (tx S) []=aS n Z ⟨8,0,0,zB⟩ by
   rw[l] at hf;unfold cmd;rw[UY (by simpa using hf)];rfl)
  rw[e] at a;go_wp2;exact Met.intro (jr (kd:=8) (at_:=0) (fr:=0) (d:=zB) ((H.set f i 0 _).set f i 0 _) ((B.set 0 (Zb 9)).set 0 (Zb 8)) f ⟨by show(-9223372036854775808:Int)<=0;omega,by show(0:Int)<=9223372036854775807;omega,by show(-9223372036854775808:Int)<=0;omega,by show(0:Int)<=9223372036854775807;omega,bW⟩ a rfl rfl rfl)
theorem M9(H:H_ (Rw w V g n Z b off (⟨#[110,101,119]⟩::T)))(ad:H_ (Bx V h (De.arr ⟨0,x,0,zB⟩) 67))(E:0<=x/\x<1000000)(hN:1<=m)(j:H_ (∀e V,RlP w g (if x<1\/32<x then⟨1,[],n,Z⟩ else⟨0,[111,107],x.toNat,[]⟩) e V->X e V))(hs:U.size=230)(h0:U[0]?=(g,0))(h1:U[1]?=(b,off,m,c))(v:U[8]?=(h,0))(s:U[9]?=Zb x):aA Tryz.f14 X 7 ⟨U,[]⟩ V:=by
 have⟨u,t⟩:=fi U;rw[hs] at t;simp only[List.range,List.range.loop,i7,rx] at t;subst t;simp only[OB,Oz,OA,Option.some.injEq] at h0 h1 v s;rw[h0,h1,v,s];clear h0 h1 v s hs;have C:=H.at_ 0 _ rfl;rw[wn] at C;have ag:(0:Int)<m:=by omega
 have af:0<m:=by omega
 obtain⟨a,O⟩:∃a:Nat,x=(a:Int):=⟨x.toNat,by omega⟩;subst O;refine aj rfl ?_;intro ak hK;by_cases f:(a:Int)<1\/32<(a:Int)
 ·rw[UY f] at j;have z:=Y (eN 1 (by omega) V);rcases f with f|f
  ·go_wp2_with fail;refine z.mono ?_;rintro e i ⟨rfl,d⟩;go_wp2;exact j _ _ (oB (u:=1) H.rd H.bel d (by decide))
  ·have G:¬(a:Int)<1:=by omega
   go_wp2_with fail;refine z.mono ?_;rintro e i ⟨rfl,d⟩;go_wp2;exact j _ _ (oB (u:=1) H.rd H.bel d (by decide))
 ·rw[UX f] at j;have ah:¬(a:Int)<1:=by omega
  have G:¬32<(a:Int):=by omega
  have⟨ae,S,cc,J,o⟩:=H.rdW;have hg:=o.bx.lt;have M:=Y (λV=>wM (k:=a) (u:=V) (by omega) (by omega));have⟨A,B,L⟩:=o.bx.three;have zf:=o.bx.frozen;have⟨q,l⟩:=ZX ((V.setCell g (Zb (a:Int))).setCell (g,1) Zs);have y:H_ (Bx q g #[a,Zs,.pointer J] 50):=(by rw[l];exact(o.bx.set 0 _).set 1 _);have R:q.heap.size=V:=by rw[l];simp[World.setCell]
  have N:H_ (Below g V q):=(by rw[l];exact((ce g V).setCell (OJ _) _).setCell (OJ _) _);clear f E;go_upto_region 19 with fail;rw[<-l];clear A B L;go_wp2_with fail;refine(M q).mono ?_;rintro e i ⟨r,rfl,D,d⟩;have p:=Y (y.later d y.lt);have⟨y0,y1,y2⟩:=p.three;have yf:=p.frozen;go_wp2;refine j _ _ ?_;have Q:Kpd i (i.setCell (g,2) (r,0)):=⟨by simp[World.setCell],λk cs U ai h1 _ K=>jp _ _ _ _ (λe=>by
   have I:k=g:=e;rw[I,show i.heap[g]?=_ from p] at h1;cases h1
   exact K rfl)⟩
  refine⟨rfl,⟨none,0,0,some ⟨r,0,none⟩,p.set 2 _,rfl,t8 _ _ _ _,λ_=>⟨r,rfl,?_⟩,by show a<=32;omega,by simp,λab F=>(by cases F)⟩,?_⟩
  ·exact(D.lower (by omega)).vZ Q
  ·have P:Below g V i:=N.trans (d.mono (by omega));exact((H.bel.mono (TP H.rd.lt)).trans P).setCell (OJ _) _
end
theorem BL.LQ(h:BL v (some ⟨m,c,none⟩) j l)(k:Nat)(i:k<j)(f:l[k]?=d)(a:Nat)(u:a<8):∃z:Int,(bytesOf d)[a]?=z/\v.cell? (m,c+k*8+a)=Za z:=by
 have⟨D,C,B,A,_,e,p,r,y,q,x,s,t,o⟩:=h.at_ k i;cases A
 obtain rfl:B=d:=by rw[f] at e;exact(OG e).symm
 match a,u with
 |0,_=>exact⟨_,rfl,p⟩
 |1,_=>exact⟨_,rfl,r⟩
 |2,_=>exact⟨_,rfl,y⟩
 |3,_=>exact⟨_,rfl,q⟩
 |4,_=>exact⟨_,rfl,x⟩
 |5,_=>exact⟨_,rfl,s⟩
 |6,_=>exact⟨_,rfl,t⟩
 |7,_=>exact⟨_,rfl,o⟩
 |j+8,h=>omega
theorem Cr(hl:BL v a m l)(aI:∀N∈l,N.ok)(aj:1<=m)(hn:m<=1000):
 C_ prog 36 #[(a,m,c)] v λo w'=>∃F k cap,o=Zv (.agg #[.slice F k cap])/\H_ (iZ w' F k (levels (l.map bR))/\k<=cap)/\H_ (OS v w'):=by
 have aB:=Y hl;have ax:=Y hl.1;have aZ:=Y aI;clear hl aI;go_enter func36,ntmps36;go_wp2;go_loopw [3,4] (λar C wr=>∃k:Nat,k<=m/\C=Zb k/\H_ (Bx wr v #[Zs] 74/\cq wr (v+1) ar ((l.take k).map bR)/\OS v wr/\v.heap.size+1<=wr)) (λ_ C _=>m-(intOf C).toNat)
 case atStart=>exact⟨0,by omega,rfl,Bx.new _ _ _,cq.nil _ _,af,by simp⟩
 case round=>
  obtain⟨k,I,rfl,r⟩:=hrel;obtain⟨e,rfl⟩:∃e,e=wr:=⟨wr,rfl⟩;by_cases av:k<m
  ·have⟨b,off,Z,bh,_,hy,_⟩:=(aB.later r.2.2.1).at_ k av;subst bh;have HY:=Y hy;have a8:=Y (aZ Z (OR hy));clear hy;go_wp2;go_loopw [5,6] (λar C wx=>∃y:Nat,y<=8/\C=Zb y/\H_ (Own wx e ar (0::(bytesOf Z).take y))/\H_ (OS e wx)) (λ_ C _=>8-(intOf C).toNat)
   case atStart=>
    refine⟨0,by omega,rfl,?_,af⟩;exact TS (base:=e) (e:=5) (size:=1) e #[Zu] 1 (by simp) (by unfold maxLen;omega) rfl
   case round=>
    obtain⟨y,hj,rfl,hO,M⟩:=hrel;have aC:=Y (r.2.2.1.trans (M.mono r.2.2.1.size));have a0:=M.size;by_cases bi:(y:Int)<8
    ·have⟨ak,H,e0⟩:=(aB.later aC).LQ k av HY y (by omega);have HZ:=Y H;clear H;have⟨bd,hL⟩:=ZX (0::(bytesOf Z).take y);have bb:=Y (show bd.length+1<=1000000 by rw[hL,fd,OM];omega);rw[<-hL] at hO;go_wp2_with (at_builtin;refine aE rfl rfl (g:=e) (l:=bd) (hO.alloc _) (Q:=⟨wr,0,none⟩) (m:=1) 1 (L:=[ak]) rfl rfl (cf rfl) bb ?c3 ?_);case c3=>simp;omega
     intro v' w' T aG;have HO:=Y (show Own w' e v' (0::(bytesOf Z).take (y+1)) by
      rw[az _ _ HZ,<-i6,<-hL];exact T)
     have HB:=Y (M.trans (((ce _ _).alloc a0 _).trans aG));clear T aG e0;go_wp2;go_roundw
     case rel=>exact⟨y+1,by omega,by go_num,HO,HB⟩
     case measure=>simp[intOf];omega
    ·have⟨aF,z⟩:=ZX (0::bytesOf Z);have HM:=Y (show Own wr e _ aF by
      have h:=hO.o;rw[OL (by show 8<=y;omega),<-z] at h;exact h)
     have⟨g,bk,cap,E,a7⟩:=Own.row HM (by rw[z];simp) (by
      rw[z];intro ak H;rcases ro.1 H with h|h
      ·omega
      ·exact a8 ak h)
     subst E;have HR:H_ (∀t,cq (wr.drewN t) (v+1) _ ((l.take k).map bR)):=λt=>aW r.2.1 (below_drewN M t);have HX:H_ (∀t,Bx (wr.drewN t) v #[Zs] 74):=λt=>r.1.later (below_drewN M t) r.1.lt;have aR:H_ (∀t,OS v (wr.drewN t)):=λt=>below_drewN aC t;have bq:=r.2.2.2;go_wp2_with fail;refine(nP a7).mono ?_;rintro o w2 ⟨rfl,B,rfl⟩;have⟨aX,hZ⟩:=ZX (fX aF)
     rw[<-hZ];obtain⟨LU,au⟩:∃LU:List Nat,H_ (LU=(l.take k).map bR):=⟨_,rfl⟩;go_wp2_with (at_builtin;refine jM rfl rfl (v+1) LU ?c0 aX ?c1 ?c2 ?c3 ?_);case c0=>rw[au];exact HR B
     case c1=>rfl
     case c2=>rw[au,pm,OM];omega
     case c3=>show v.heap.size+1<=wr;omega
     intro v' w' T ah;have aN:H_ (∀kk,Value.ownBlock _=some kk->v.heap.size+1<=kk):=λkk a5=>(World.ownsRow.lt (HR B) kk a5).1;have a3:=Y (show cq w' (v+1) v' ((l.take (k+1)).map bR) by
      rw[az _ _ HY,le,i7,rx,bR,<-z,<-hZ,<-au];exact T)
     have HB:=Y ((aR B).grown ah (aR B).size (λk I=>by have:=aN k I;omega));have a6:=Y (show Bx w' v #[Zs] 74 from(ah.block _ (HX B).lt (λo=>by have:=aN _ o.symm;omega)).trans (HX B));have aO:v.heap.size+1<=w':=by have:=ah.size;have h3:wr<=w'.heap.size:=this;omega
     clear T ah;go_wp2;go_roundw
     case rel=>exact⟨k+1,by omega,by go_num,a6,a3,HB,aO⟩
     case measure=>simp[intOf];omega
  ·obtain⟨u,ag⟩:∃u:List Nat,H_ (u=l.map bR):=⟨_,rfl⟩;have aw:=Y (show cq e (v+1) _ u by
    have h:=r.2.1;rw[OL (by rw[ax];omega),<-ag] at h;exact h)
   have ba:=Y (show ∀N∈u,N<18446744073709551616 by
    rw[ag];intro ak H;obtain⟨N,_,rfl⟩:=m8.1 H;exact kM N)
   have aK:u.length=m:=by rw[ag,pm,ax]
   have⟨a1,c1,aP⟩:=aw.form;rw[aK] at aP;subst aP;have L:=Y (aw.read ba);have⟨j,ao,bc,aT,_⟩:=L.1.2.2.2 aj;subst bc;have bt:v+1<=j:=(World.ownsRow.lt aw j rfl).1;have⟨S,J⟩:=ZX e.heap.size;have bs:v+1<=S:=by rw[J];exact r.2.2.2
   have bm:j<S:=by rw[J];exact aT
   have⟨w0,R⟩:=ZX ((e.alloc (.cells #[(j,ao,m,c1)] 84)).alloc (.cells #[.slice (some e) 1 1] 74));have Bo:H_ (OS e w0):=(by rw[R];exact(af).alloc (by simp) _);have R0:=Y (r.1.later Bo r.1.lt);have T0:=Y (show Bx w0 (S+1) #[.slice (some e) 1 1] 74 by
    rw[R,J];have h:=Bx.new (e.alloc (.cells #[(j,ao,m,c1)] 84)) #[.slice (some e) 1 1] 74;rw[dl] at h;exact h)
   have B0:=Y (r.2.2.1.trans (Bo.mono r.2.2.1.size));have L0:=Y (show di w0 S (λq=>q=j\/S+2<=q) (.slice (some e) 1 1) [u] by
    rw[R];exact(di.one (w:=e) (base:=S) (P:=(λq=>q=j\/S+2<=q)) (by rw[J];exact OJ _) L.1 L.2 aj (λp i=>by cases i;exact .inl rfl)).later (af))
   have bl:S+2<=w0:=by rw[R,J];simp
   go_wp2;rw[<-R];rw[<-J];go_loopw [3] (λlv wr=>∃(A x c':Nat) (F:Option A_) (d:List Nat) (s:List (List Nat)) (G:V_),lv=.slice F x c'/\x<=1000/\H_ (d.length<=A+1/\s++fe A d=levels u/\s.length+x<=m)/\
    H_ (dF wr F x d/\x<=c'/\1<=x/\∀p,F=some p->p.block=j\/S+2<=p.block)/\
    H_ (Bx wr (S+1) #[G] 74/\Bx wr v #[Zs] 74/\di wr S (λq=>q=j\/S+2<=q) G (s++[d])/\OS v wr)) (λlv _=>xF lv)
   case atStart=>exact⟨m,m,c1,some ⟨j,ao,none⟩,u,[],_,rfl,hn,⟨by omega,by rw[pp,levels,aK],by simp⟩,⟨L.1.later Bo,L.2,aj,λp i=>by cases i;exact .inl rfl⟩,T0,R0,L0,B0⟩
   case round=>
    obtain⟨A,x,c',F,d,s,G,rfl,bf,z,hU,f⟩:=hrel;by_cases av:(1:Int)<x
    ·have⟨b',bu,ha,hbl,_⟩:=hU.1.2.2.2 (by omega);subst ha;have am:=Y hU.1.1;go_wp2_with fail;refine(Cw (g:=c') hU.1 bf).mono ?_;rintro o W2 ⟨v2,rfl,ap,ab⟩;have⟨a2,aH,ay⟩:=ap.form;have⟨D,aq⟩:=ZX ((cw d).length);rw[<-aq] at ay;subst ay;have aJ:D+1<=x/\1<=D:=by
      have h:=aq.o;rw[oy,am] at h;omega
     have O:=Y (ap.read (qb d));have bn:S+2<=wr:=by
      have:=f.1.lt;omega
     have ae:=Y (show ∀p,a2=some p->wr.heap.size<=p.block by
      intro p i;have⟨b2,bp,bo,_,_⟩:=O.1.2.2.2 (by omega);rcases ap.2 with ⟨E,_⟩|⟨g2,br,bj,E,aV,_⟩
      ·simp only[Value.slice.injEq] at E
       rw[E.1] at i;cases i
      ·simp only[Value.slice.injEq] at E
       rw[E.1] at i;cases i
       exact aV)
     have T2:=Y (f.1.later ab f.1.lt);have R2:=Y (f.2.1.later ab f.2.1.lt);obtain⟨U,an⟩:∃U:List (List Nat),H_ (U=s++[d]):=⟨_,rfl⟩;have L2:H_ (di W2 S (λq=>q=j\/S+2<=q) G U):=(by rw[an];exact f.2.2.1.later ab);have B2:=Y (f.2.2.2.trans (ab.mono f.2.2.2.size));have aA:H_ (∀k,G.ownBlock=some k->k<wr.heap.size):=λk I=>(World.ownsRow.lt f.2.2.1.choose_spec.1 k I).2;have t2:=T2.one;have aO:=ab.size;go_wp2_with (at_builtin;refine kJ rfl rfl S (P:=λq=>q=j\/S+2<=q) U ?o1 a2 D aH (U7:=cw d) ?o2 ?o3 ?o4 ?o5 ?o6 ?o7 ?o8 ?_);case o1=>exact L2
     case o2=>exact O.1
     case o3=>exact O.2
     case o4=>exact aJ.2
     case o5=>
      intro p i;have h1:=ae p i;exact⟨λo=>by have:=aA _ o;omega,.inr (by omega)⟩
     case o6=>rfl
     case o7=>have:=z.2.2;rw[an,OC,pu];omega
     case o8=>omega
     intro v4 W4 al ad;have⟨a4,aQ,aS⟩:=al.form;have⟨N4,a9⟩:=ZX ((U++[cw d]).length);rw[<-a9] at aS;subst aS;have aD:H_ (di W4 S (λq=>q=j\/S+2<=q) (a4,N4,aQ) (s++[d]++[cw d])):=(by rw[<-an];exact al);have q1:=aU L2.choose_spec.1 T2 (by decide);have B:=aU L2.choose_spec.1 R2 (by decide);have T4:=Y (show Bx W4 (S+1) #[G] 74 from(ad.block _ T2.lt (λo=>q1 o.symm)).trans T2);have R4:=Y (show Bx W4 v #[Zs] 74 from(ad.block _ R2.lt (λo=>B o.symm)).trans R2);have B4:=Y (B2.grown ad B2.size (λk I=>by have:=(World.ownsRow.lt L2.choose_spec.1 k I).1;omega));have U4:H_ (dF W4 a2 D (cw d)):=(O.1.grownBy ad (λp i o=>by have:=aA _ o;have:=ae p i;omega));have q4:=aU aD.choose_spec.1 T4 (by decide);have t4:=T4.one;have z4:=T4.frozen;obtain⟨K,rfl⟩:∃K,A=K+1:=by
      cases A with
      |zero=>have:=z.1;have:=am.o;omega
      |succ A=>exact⟨A,rfl⟩
     have bg:=Y (show(cw d).length<=K+1/\s++[d]++fe K (cw d)=levels u/\(s++[d]).length+D<=m by
      have⟨m1,m2,m3⟩:=z.o;have h1:=am.o;have h2:=aq.o;refine⟨by omega,?_,by rw[OC,pu];omega⟩;rw[rm K d (by omega)] at m2;rw[eq];exact m2)
     clear al ad t2;go_wp2;go_roundw
     case rel=>
      refine⟨K,D,aH,a2,cw d,s++[d],(a4,N4,aQ),rfl,by omega,bg,⟨U4.setOther _ _ (λp i=>?_),O.2,aJ.2,λp i=>.inr (by have:=ae p i;omega)⟩,T4.set 0 _,R4.other _ _ (by show v≠S+1;omega),aD.setOther _ _ q4 ?_,B4.setCell (p:=(S+1,0)) (by show v<=S+1;omega) _⟩
      ·have:=ae p i;show p.block≠S+1;omega
      ·show ¬(S+1=j\/S+2<=S+1);omega
     case measure=>show D<x;omega
    ·have HE:=Y (show s++[d]=levels u by
      have h1:=hU.1.1;rw[<-z.2.1,tB A d (by omega)])
     have⟨aL,ai,aM⟩:=f.2.2.1.form;have⟨NL,be⟩:=ZX ((s++[d]).length);rw[<-be] at aM;subst aM;have t0:=f.1.one;have r0:=f.2.1.one;have rz:=f.2.1.frozen;have q1:=aU f.2.2.1.choose_spec.1 f.2.1 (by decide);go_wp2;have r1:=(show Bx _ _ #[(aL,NL,ai)] 74 from f.2.1.set 0 (aL,NL,ai)).one;refine UM (by simp[results,results36,go_sem,r1]) rfl ⟨aL,NL,ai,rfl,?_,f.2.2.2.setCell (p:=v) (OJ _) _⟩;have h:=f.2.2.1.setOther ⟨v,0,none⟩ (aL,NL,ai) q1 (by show ¬(v=j\/S+2<=v);omega);rw[HE,ag] at h;exact h.lv
section
variable {n b k cap:Nat}{w V:W_}{la:Option A_}
theorem ClW.last(o:ClW m w c n R M)(h:R[j]?=l)(f:R.length=j+1):∃a p d e,c<w/\a<w.heap.size/\w.cell? (c,1)=some (.slice (some ⟨a,0,none⟩) (j+1) p)/\w.cell? ⟨a,j,none⟩=some (.slice d n e)/\BL w d n l:=by
 have⟨g,q,v,X⟩:=o;obtain⟨a,cap,d,e,rfl,h1,h2,i,_⟩:=X.sn.at_ h;refine⟨a,cap,d,e,X.bx.lt,h1,?_,h2,i⟩;rw[<-f];exact X.bx.cell 1
structure TB (V Yy:W_) (bx:Nat) (la:Option A_) (k cap:Nat) (l:List B8):Prop where
 bel:OS V Yy
 lt:bx<Yy.heap.size
 c0:Yy.cell? ⟨bx,0,none⟩=some (.slice la k cap)
 top:∃b off bi offi ni ci,la=some ⟨b,off,none⟩/\1<=k/\k<=maxLen/\b<Yy.heap.size/\bi<Yy.heap.size/\Yy.cell? ⟨b,off+(k-1),none⟩=some (.slice (some ⟨bi,offi,none⟩) ni ci)/\1<=ni/\Yy.cell? ⟨bi,offi,none⟩=some (.int .u64 (Mx.top l:Nat))/\Mx.top l<18446744073709551616
theorem yY(h:w.cell? (b,m)=u):b<w:=by
 rcases Uk b w with h1|h1
 ·exact h1
 ·simp[World.cell?,TQ h1] at h
theorem TB.late(e:OS V v)(c:iZ v la k (levels (l.map bR)))(h1:1<=l.length):TB V (v.alloc (.cells #[(la,k,cap)] 74)) v la k cap l:=by
 have D:=af (v:=v) (P:=.cells #[(la,k,cap)] 74);have⟨b,off,h,q,o,s,j,i,f,t,r,a,m⟩:=c.top h1;have d:=yY a;exact⟨e.trans (D.mono e.size),by simp,(Bx.new v _ _).cell 0,b,off,h,q,o,s,j,i,c.2.1,OE f D.size,OE d D.size,(D.cell (p:=⟨b,_,none⟩) f).trans t,r,(D.cell (p:=⟨h,_,none⟩) d).trans a,m⟩
theorem TB.early(z:OS V v)(i:iZ v la k (levels (l.map bR)))(h1:1<=l.length)(c:Bx v V #[Zs] 74):TB V (v.setCell V (la,k,cap)) V la k cap l:=by
 have⟨b,off,o,y,p,C,t,r,B,d,A,a,u⟩:=i.top h1;have x:=yY a;have m:∀(j:Nat) e,v.cell? (V,j)=some e->e=Zs:=λj e h=>by
  rw[c.cell j] at h
  match j,h with
  |0,h=>cases h;rfl
  |j+1,h=>simp at h
 have q:¬V=b:=λf=>by rw[<-f] at d;cases m _ _ d
 have s:¬V=o:=λf=>by rw[<-f] at a;cases m _ _ a
 have hs:(v.setCell V (la,k,cap)).heap.size=v:=by simp[World.setCell]
 exact⟨z.setCell (OJ _) _,by rw[hs];exact c.lt,(c.set 0 _).cell 0,b,off,o,y,p,C,t,r,i.2.1,by rw[hs];exact B,by rw[hs];exact x,(aw q _).trans d,A,(aw s _).trans a,u⟩
theorem FZ(H:H_ (Rw w V m n Z b j (⟨#[115,101,116,116,108,101]⟩::T)))(hN:1<=i)(hP:H_ (∀e V,RlP w m (settled n Z) e V->X e V))(hs:U.size=230)(h0:U[0]?=(m,0))(h1:U[1]?=(b,j,i,c))(h8:U[8]?=(h,0)):aA Tryz.f14 X 7 ⟨U,[]⟩ V:=by
 have⟨aH,hu⟩:=fi U;rw[hs] at hu;simp only[List.range,List.range.loop,i7,rx] at hu;subst hu;simp only[OB,Oz,OA,Option.some.injEq] at h0 h1 h8;rw[h0,h1,h8];clear h0 h1 h8 hs;have w0:=H.at_ 0 _ rfl;rw[wn] at w0;have a3:(0:Int)<i:=by omega
 have a2:0<i:=by omega
 have⟨a8,aZ,cc,cp,r⟩:=H.rdW;have⟨z0,z1,z2⟩:=r.bx.three;have HX:=Y r;refine aj rfl ?_;intro K9 a4;by_cases hn:n=0
 ·have HD:=Y (show settled n Z=⟨((5:Nat):Int),[],n,Z⟩ by unfold settled;rw[UY hn];rfl);have av:(n:Int)=0:=by omega
  have aW:=Y (eN 5 (by omega) V);clear z1 z2 r;go_wp2_with fail;refine aW.mono ?_;rintro e E ⟨rfl,D2⟩;go_wp2;refine hP _ _ ?_;rw[HD];exact oB (u:=5) H.rd H.bel D2 (by decide)
 ·have av:¬(n:Int)=0:=by omega
  have⟨K,aV,ai⟩:=r.cl (by omega);subst aV;obtain⟨a,G⟩:∃ a,H_ (a=Mx.hv n Z):=⟨_,rfl⟩;obtain⟨o,ah⟩:∃o,H_ (o=dY n Z):=⟨_,rfl⟩;have aQ:=nf n Z;have aG:=kR n Z;have aM:=r.m3;have al:(aC n Z).1.length=a+1:=by rw[G];unfold Mx.hv;omega
  have ad:(aC n Z).1[a]?=some o:=by
   rw[ah];unfold dY;rw[<-G,Oy,Ox (by omega)];rfl
  have⟨u,vc,sa,P,am,au,d,k2,ap⟩:=ai.last ad al;have ay:=pT n Z;have ar:∀x∈o,x.ok:=λx L=>LM ((js n r.ok).1 o (OR ad) x L)
  have HO:=Y (show settled n Z=⟨0,Lib.itoa ((a:Nat):Int)++32::Lib.decDigits (top o),n,Z⟩ by unfold settled;rw[UX hn,G,ah]);have ag:H_ (∀x,OS V x->C_ prog 37 #[(K,0)] x λe w'=>e=Zv (Zb (a:Int))/\w'=x):=(λx L=>jN (ai.later L) al (by rw[G];omega));have ab:H_ (∀x,OS V x->C_ prog 36 #[(sa,n,P)] x λe w'=>∃a' k cap,e=Zv (.agg #[.slice a' k cap])/\H_ (iZ w' a' k (levels (o.map bR))/\k<=cap)/\H_ (OS x w')):=(λx L=>Cr (c:=P) (ap.later L) ar (by omega) (by have:=r.n2;omega));have ao:=Y (show 1<=o.length by rw[ah,ay.1];omega);have N:m<V:=r.bx.lt;have s:∀y,OS V y->y.cell? (m,2)=(K,0)/\y.cell? (K,1)=some (.slice (some u) (a+1) vc)/\y.cell? (u,a)=(sa,n,P):=λy t=>⟨(t.cell (p:=(m,2)) N).trans z2,(t.cell (p:=(K,1)) am).trans d,(t.cell (p:=(u,a)) au).trans k2⟩
  have F:OS V V.drew:=(ce _ _).drew;have M:OS V (V.alloc (.cells #[Zs] 74)).drew:=(af).drew;have ae:H_ (a<=301):=Y (by rw[G];omega);have aX:(a:Int)<(a:Int)+1:=by omega
  clear r aQ aG aM al ad ap ay ar ai d k2 z1;go_upto_region 24 with fail;clear z0 z2 av hn;go_region_held3 (λx=>x.cell? (m,2)=(K,0)/\x.cell? (K,1)=some (.slice (some u) (a+1) vc)/\x.cell? (u,a)=(sa,n,P))
   (first|with_reducible assumption|with_reducible exact s _ F|with_reducible exact s _ M|(simp only[an];with_reducible exact s _ F)|(simp only[an];with_reducible exact s _ M)|with_reducible exact s _ f.o|(simp only[aq aI,aq aT,aq aO];with_reducible exact Q)|(simp only[aw aL,aw aN,aw aP];with_reducible exact Q))
   (first|(go_at_call 37;(with_reducible refine(ag.o _ F).mono ?_);rintro e w3 ⟨rfl,rfl⟩)|(go_at_call 37;(with_reducible refine(ag.o _ M).mono ?_);rintro e w3 ⟨rfl,rfl⟩)|(go_at_call 36;(with_reducible refine(ab.o _ F).mono ?_);rintro e v ⟨la,k,cap,rfl,E,J⟩;have f:=Y (F.t J);have Q:=s _ f;have aI:m<v:=OE N f.size;have aT:K<v:=OE am f.size;have aO:u<v:=OE au f.size)|(go_at_call 36;(with_reducible refine(ab.o _ M).mono ?_);rintro e v ⟨la,k,cap,rfl,E,J⟩;have f:=Y (M.t J);have Q:=s _ f;have Z2:=Y (show Bx v V #[Zs] 74 from(Bx.dC V _ _).later J (by simp));have q0:=Z2.cell 0;simp only[OB,Oz] at q0;have qz:=Z2.frozen;have aL:¬V=m:=(by omega);have aN:¬V=K:=(by omega);have aP:¬V=u:=(by omega)))
  all_goals
   first
    |(have l:=Y (TB.late (cap:=cap) f E.1 ao);generalize v.alloc (.cells #[(la,k,cap)] 74)=A at l ⊢;have⟨R,ak⟩:=ZX v.heap.size;rw[<-ak] at l ⊢)
    |(have l:=Y (TB.early (cap:=cap) f E.1 ao Z2);generalize v.setCell V (.slice la k cap)=A at l ⊢;have⟨R,ak⟩:=ZX V.heap.size;rw[<-ak] at l ⊢)
   obtain⟨D,I,C,B,S,ci,rfl,aD,ax,aK,aR,y1,az,y2,hU⟩:=l.top;obtain⟨q,aE⟩:∃q,H_ (q=top o):=⟨_,rfl⟩;rw[<-aE] at y2 hU HO;obtain⟨d,aB⟩:∃d,H_ (d=k-1):=⟨_,rfl⟩;rw[<-aB] at y1;have aS:k=d+1:=by rw[aB];omega
   have a9:IntKind.i64.wrap ((k:Int)-1)=(d:Int):=by unfold maxLen at ax;rw[IntWalk.i64_left,IntWalk.wrap64_in _ (by omega)];omega
   have a5:(0:Int)<=(d:Int):=by omega
   have a0:(0:Int)<S:=by omega
   have a7:0<S:=az;have a1:(d:Int)<(k:Int):=by omega
   have bb:d<k:=by omega
   have z:=Y l.bel;have y0:=l.c0;have aJ:m<A:=OE N z.size;have y3:=(z.cell (p:=(m,2)) N).trans (s V (ce _ _)).1;have hbl:=l.lt;have HU:=Y hU;have O:∀y,OS A y->y.cell? (m,2)=(K,0)/\y.cell? R=some (.slice (some (D,I)) k cap)/\y.cell? (D,I+d)=(C,B,S,ci)/\y.cell? (C,B)=some (.int .u64 (q:Int)):=λy t=>⟨(t.cell (p:=(m,2)) aJ).trans y3,(t.cell (p:=R) hbl).trans y0,(t.cell (p:=(D,I+d)) aK).trans y1,(t.cell (p:=(C,B)) aR).trans y2⟩
   have c0:OS A A.drew:=(ce _ _).drew;have aF:=Y (λx=>oM a (by have:=ae.o;omega) x);have aU:=Y (λx=>Ju q HU x);have a6:¬9223372036854775807<(Lib.itoa (a:Int)).length+1:=by have h9:=Lib.itoa_length_le (a:Int) (by omega) (by have:=ae.o;omega);omega
   have ba:¬9223372036854775807<(Lib.itoa (a:Int)).length+1+(Lib.decDigits q).length:=by have h9:=Lib.itoa_length_le (a:Int) (by omega) (by have:=ae.o;omega);have h8:=nO HU;omega
   clear hU az ax aS aD y0 y1 y2 y3 l E ab Q f J;go_upto_region 25 with fail;go_region_held3 (λx=>x.cell? (m,2)=(K,0)/\x.cell? R=some (.slice (some (D,I)) k cap)/\x.cell? (D,I+d)=(C,B,S,ci)/\x.cell? (C,B)=some (.int .u64 (q:Int)))
    (first|with_reducible assumption|with_reducible exact O _ c0|(simp only[an];with_reducible exact O _ c0)|with_reducible exact O _ B3.o|with_reducible exact O _ B4.o)
    (first|(go_at_call 37;(with_reducible refine(ag.o _ (z.o.trans (c0.mono z.o.size))).mono ?_);rintro e w3 ⟨rfl,rfl⟩)|(go_at_call 38;(with_reducible refine(aF.o A.drew).mono ?_);rintro e w4 ⟨rfl,E3⟩;have B3:=Y (c0.t E3))|(go_at_call 39;(with_reducible refine(aU.o _).mono ?_);rintro e w5 ⟨rfl,E4⟩;have B4:=Y (B3.t E4)))
   go_wp2;refine hP _ _ ?_;rw[HO];have D9:=(H.bel.trans (z.mono H.bel.size)).trans (B4.mono (OP H.bel.size z.size));refine⟨?_,H.rd.later D9,D9.mono (TP H.rd.lt)⟩;show _=Ending.returned (.string ⟨(Lib.itoa (a:Int)++32::Lib.decDigits q).toArray⟩);rw[show Lib.itoa (a:Int)++32::Lib.decDigits q=Lib.itoa (a:Int)++[32]++Lib.decDigits q by simp,<-fa,<-fa];rfl
end
section
variable {k:Nat}
namespace Mx
theorem uw(a:Tx)(r:List Tx)(y:Tx):Lib.joinTail a (r++[y])=Lib.joinTail a r++(a++y):=by
 unfold Lib.joinTail;rw[le,List.flatten_append];simp
theorem DJ(a:Tx)(r:List Tx)(y:Tx)(c:r≠[]):Lib.join (r++[y]) a=Lib.join r a++(a++y):=by
 cases r with
 |nil=>exact absurd rfl c
 |cons x r=>rw[i6,Lib.join_cons,Lib.join_cons,uw,eq]
theorem wT(q:Pk):pkT q=Lib.itoa q.at_++([32]++(Lib.itoa q.kind++([32]++(Lib.itoa q.from_++if q.kind=3 then [32]++fp q.d else [])))):=by
 unfold pkT;rw[i6,Lib.join_cons];unfold Lib.joinTail;by_cases h:q.kind=3
 ·rw[UY h,UY h];simp
 ·rw[UX h,UX h];simp
theorem MM(q:Pk):pkT q≠[]:=by rw[wT];simp
theorem Km(a:Tx)(r:List Tx)(h:∀x∈r,x≠[]):Lib.join r a=[]↔r=[]:=by
 cases r with
 |nil=>simp[Lib.join_nil]
 |cons x r=>
  rw[Lib.join_cons];refine⟨λe=>absurd (List.append_eq_nil_iff.1 e).1 (h x li),λe=>by cases e⟩
def plT (peer:List B8) (l:List B8) (k:Nat):Tx:=Lib.join ((pks peer [] ((bM l).take k)).map pkT) [124]
theorem II(hd:l[k]?=d)(h:M[k]?=d):plT M l (k+1)=plT M l k:=by
 have a:=(OI.1 hd).1;unfold plT;rw[mS (jc a),jH,UY (by rw[m6,Oy,hd];exact h),m7]
theorem EW(hd:l[k]?=d)(i:¬M[k]?=d):plT M l (k+1)=(if plT M l k=[] then [] else plT M l k++[124])++pkT (cy ⟨(k:Int),d⟩ M []):=by
 have j:=(OI.1 hd).1;have f:l.getD k zB=d:=by rw[Oy,hd];rfl
 have c:plT M l k=[]↔(pks M [] ((bM l).take k)).map pkT=[]:=Km _ _ (λx h=>by obtain⟨q,-,rfl⟩:=m8.1 h;exact MM q);have hs:pks M [] ((bM l).take (k+1))=pks M [] ((bM l).take k)++[cy ⟨(k:Int),d⟩ M []]:=by
  rw[mS (jc j),f,jH,UX (by rw[m6];exact i)]
 by_cases a:plT M l k=[]
 ·rw[UY a,pp];unfold plT;rw[hs,le,c.1 a,pp,List.map_singleton,Lib.join_cons];unfold Lib.joinTail;simp
 ·rw[UX a];unfold plT;rw[hs,le,List.map_singleton,DJ _ _ _ (λe=>a (c.2 e)),eq]
theorem MN{peer l:List B8}(f:peer.length<=32)(e:l.length<=32)(c:∀x∈l,by8 x):(plT peer l k).length<=5000:=by
 have i:∀q∈pks peer [] ((bM l).take k),q∈pks peer [] (bM l):=λq a=>by
  have⟨p,d,j⟩:=If.1 a;exact If.2 ⟨p,f9 d,j⟩
 have h1:=lX peer [] ((bM l).take k);rw[OM,eD] at h1;refine OP (join_le 124 100 _ ?_) ?_
 ·intro x h;obtain⟨q,a,rfl⟩:=m8.1 h;exact wU (qg f e c q (i q a))
 ·rw[pm];omega
theorem KK(a:l.length<=k):plT M l k=Lib.join ((pks M [] (bM l)).map pkT) [124]:=by
 unfold plT;rw[OL (by rw[eD];exact a)]
end Mx
theorem GP(h0:0<=x)(h1:x<1000)(w:W_):C_ prog 38 #[x] w λe w'=>e=Zv (.string ⟨(Lib.itoa x).toArray⟩)/\H_ (OS w w'):=by
 obtain⟨u,rfl⟩:∃u:Nat,x=u:=⟨x.toNat,by omega⟩;exact oM u (by omega) w
end
theorem FC(a0:RD v m c Z):
 C_ prog 40 #[(m,0)] v λf w'=>f=Zv (.string ⟨(cu c Z).tx.toArray⟩)/\H_ (OS v w'):=by
 have⟨be,G,cc,cp,X⟩:=a0;have⟨z0,z1,z2⟩:=X.bx.three;have U:=Y X.ml;have ah:=X.bx.lt;by_cases hn:c=0
 ·have P:=Y (show(cu c Z).tx=er ((5:Nat):Int) by unfold cu;rw[UY hn];rfl);have aE:(c:Int)=0:=by omega
  have aw:=Y (eN 5 (by omega) v);clear z1 z2 X;go_enter func40,ntmps40;go_wp2_with fail;refine aw.mono ?_;rintro f V2 ⟨rfl,D2⟩;go_wp2;go_ret;rw[P];exact⟨rfl,D2⟩
 ·have aE:¬(c:Int)=0:=by omega
  have a1:G<=300:=by rw[<-U];exact X.m3
  by_cases z:G=300
  ·have P:=Y (show(cu c Z).tx=er ((2:Nat):Int) by unfold cu;rw[UX hn,UY (by rw[U];omega)];rfl);have aG:(G:Int)=300:=by omega
   have aw:=Y (eN 2 (by omega) v);clear z2 X;go_enter func40,ntmps40;go_wp2_with fail;refine aw.mono ?_;rintro f V2 ⟨rfl,D2⟩;go_wp2;go_ret;rw[P];exact⟨rfl,D2⟩
  ·have aG:¬(G:Int)=300:=by omega
   have⟨K,aS,ae⟩:=X.cl (by omega);subst aS;obtain⟨a,av⟩:∃a,H_ (a=Mx.hv c Z):=⟨_,rfl⟩;obtain⟨e,ak⟩:∃l,H_ (l=dY c Z):=⟨_,rfl⟩;obtain⟨l,ad⟩:∃l,H_ (l=(aC c Z).2):=⟨_,rfl⟩;have aP:=nf c Z;have aW:=kR c Z;have al:(aC c Z).1.length=a+1:=by rw[av];unfold Mx.hv;omega
   have aF:(aC c Z).1[a]?=e:=by
    rw[ak];unfold dY;rw[<-av,Oy,Ox (by omega)];rfl
   have⟨F,vc,sa,sc,ax,aL,k1,k2,aB⟩:=ae.last aF al;obtain⟨na,nc,k0,aD⟩:∃na nc,v.cell? K=some (.slice na c nc)/\BL v na c l:=by
    have⟨ng,nc,nv,X2⟩:=ae;rw[ad];first|exact⟨_,_,X2.bx.cell 0,ay.qB X2.nw⟩|exact⟨_,_,X2.bx.cell 0,ay.asBL X2.nw⟩
   have am:=pT c Z;rw[<-ak,<-ad] at am;have aj:=X.n2;have R:=Y am;have aH:H_ (∀x∈l,by8 x):=(by rw[ad];exact(js c X.ok).2);have P:=Y (show(cu c Z).tx=Lib.join ((pks e [] (bM l)).map pkT) [124] by unfold cu;rw[UX hn,UX (by rw[U];omega),ak,ad];rfl);have aA:H_ (∀x,OS v x->C_ prog 37 #[(K,0)] x λf w'=>f=Zv (Zb (a:Int))/\w'=x):=λx hx=>jN (ae.later hx) al (by have h9:=U.o;rw[av];omega);have HS:∀y,OS v y->y.cell? (m,2)=(K,0)/\y.cell? (K,1)=some (.slice (some F) (a+1) vc)/\y.cell? (F,a)=(sa,c,sc):=λy E=>⟨(E.cell (p:=(m,2)) ah).trans z2,(E.cell (p:=(K,1)) ax).trans k1,(E.cell (p:=(F,a)) aL).trans k2⟩
   have M:OS v v.drew:=(ce _ _).drew;have aI:(a:Int)<(a:Int)+1:=by omega
   have az:=Y aB;have aM:=Y aD;clear X ae aP aW a1 z al aF aB aD am hn k1 k2;go_enter func40,ntmps40;go_upto_region 5 with fail;clear aE aG z1;go_region_held3 (λx=>x.cell? (m,2)=(K,0)/\x.cell? (K,1)=some (.slice (some F) (a+1) vc)/\x.cell? (F,a)=(sa,c,sc))
    (first|with_reducible assumption|with_reducible exact HS _ M|(simp only[an];with_reducible exact HS _ M))
    (first|(go_at_call 37;(with_reducible refine(aA.o _ M).mono ?_);rintro f w3 ⟨rfl,rfl⟩))
   have aZ:=Y M;clear aI M aA HS;go_wp2;go_loopw [4,5] (λaX af wr=>∃k:Nat,k<=c/\af=Zb (k:Int)/\aX=.string ⟨(plT e l k).toArray⟩/\H_ (OS v wr)) (λ_ af _=>c-(intOf af).toNat)
   case atStart=>exact⟨0,ol _,rfl,rfl,aZ⟩
   case round=>
    obtain⟨k,hk,rfl,rfl,i⟩:=hrel;have c0:=(i.cell (p:=m) ah).trans z0;by_cases au:k<c
    ·have bc:(k:Int)<c:=by omega
     have bd:(0:Int)<=k:=by omega
     have c2:=(i.cell (p:=(m,2)) ah).trans z2;have c3:=(i.cell (p:=K) ax).trans k0;have ab:=Y (MN (peer:=e) (l:=l) (k:=k) (by rw[R.1];exact aj) (by rw[R.2];exact aj) aH);obtain⟨b,off,aq,rfl,a8,hx,e0,e1,e2,e3,e4,e5,e6,e7⟩:=(aM.later i).at_ k au;have ap:=Y hx;clear hx;by_cases hs:e[k]?=aq
     ·have s:=Y (II ap hs);have I:=Y (uB (q:=none) (c:=sc) (m:=0) (j:=0) (az.later i) au hs);clear hs;go_wp2_with fail;refine I.mono ?_;clear I;rintro f C ⟨rfl,O⟩;have H:=Y (i.t O);clear O e0 e1 e2 e3 e4 e5 e6 e7 c0 c2 c3;have J:=Y (H.alloc H.size (.cells Zk 109));go_upto_region 11 with fail;have⟨N,ar⟩:=ZX (C.alloc (.cells Zk 109));rw[<-ar] at J ⊢;go_wp2;go_roundw
      case rel=>exact⟨k+1,by omega,by go_num,by rw[s],J⟩
      case measure=>simp[intOf];omega
     ·have s:=Y (EW ap hs);have I:=Y (sK (c:=sc) (j:=0) e [] aq (az.later i) au (BL.nil wr) hs);clear hs;go_wp2_with fail;refine I.mono ?_;clear I;rintro f C ⟨q,hq,rfl,O⟩;rw[<-hq] at s;have d:=Y (show PkF q by rw[hq];exact zJ (by rw[R.1];exact aj) (by show(0:Int)<=k;omega) (by show(k:Int)<32;omega) (aH aq (OR ap)));have H:=Y (i.t O);clear O hq e0 e1 e2 e3 e4 e5 e6 e7 c0 c2 c3;have J:=Y (H.alloc H.size (.cells (Zp q.at_ q.kind q.from_ q.d) 109));have A:H_ (Bx (C.alloc (.cells (Zp q.at_ q.kind q.from_ q.d) 109)) C q.arr 109):=Bx.new _ _ _;go_upto_region 12 with fail;have⟨N,ar⟩:=ZX (C.alloc (.cells (Zp q.at_ q.kind q.from_ q.d) 109));rw[<-ar] at J A ⊢;have⟨B,hh⟩:=ZX C;rw[<-hh] at A ⊢;obtain⟨S,hS⟩:∃S,H_ (S=plT e l k):=⟨_,rfl⟩;rw[<-hS] at s ab ⊢;have aT:=Y (λx=>GP d.a0 d.a1 x);have a3:=Y (λx=>GP d.k0 d.k1 x);have a6:=Y (λx=>GP d.f0 d.f1 x);have r:=Y (Lib.itoa_length_le q.at_ (by have:=d.a0;omega) (by have:=d.a1;omega));have L:=Y (Lib.itoa_length_le q.kind (by have:=d.k0;omega) (by have:=d.k1;omega));have i3:=Y (Lib.itoa_length_le q.from_ (by have:=d.f0;omega) (by have:=d.f1;omega));have Q:∀y,OS N y->y.cell? B=Zb q.at_/\y.cell? (B,1)=Zb q.kind/\y.cell? (B,2)=Zb q.from_:=λy E=>by
       obtain⟨y0,y1,y2,-⟩:=(A.later E A.lt).cE;exact⟨y0,y1,y2⟩
      have d0:OS N N.drew:=(ce _ _).drew;rcases Classical.em (S=[]) with o|o
      case' inl=>
       have t:=Y (show plT e l (k+1)=S++pkT q by rw[s,UY o,o]);have h:=Y (show S.length<=5001 by have:=ab.o;omega);have ag:S.isEmpty=true:=by simpa using o
       have ao:(S==[])=true:=by simpa using o
       go_upto_region 14 with fail;obtain⟨T,D⟩:∃T:Tx,H_ (T=S):=⟨_,Y rfl⟩;rw[<-D];rw[<-D] at t h;clear ao ag
      case' inr=>
       have t:=Y (show plT e l (k+1)=(S++[124])++pkT q by rw[s,UX o]);have h:=Y (show(S++[124]).length<=5001 by have:=ab.o;rw[OC];show S.length+1<=_;omega);have a4:¬9223372036854775807<S.length+1:=by have:=ab.o;omega
       have ag:S.isEmpty=false:=by simpa using o
       have ao:(S==[])=false:=by simpa using o
       go_upto_region 14 with fail;obtain⟨T,D⟩:∃T:Tx,H_ (T=S++[124]):=⟨_,Y rfl⟩;rw[fa,<-D];rw[<-D] at t h;clear ao ag a4
      all_goals
       have aV:¬9223372036854775807<T.length+(Lib.itoa q.at_).length:=by have:=h.o;have:=r.o;omega
       have aN:¬9223372036854775807<T.length+(Lib.itoa q.at_).length+1:=by have:=h.o;have:=r.o;omega
       have a2:¬9223372036854775807<T.length+(Lib.itoa q.at_).length+1+(Lib.itoa q.kind).length:=by have:=h.o;have:=r.o;have:=L.o;omega
       have aR:¬9223372036854775807<T.length+(Lib.itoa q.at_).length+1+(Lib.itoa q.kind).length+1:=by have:=h.o;have:=r.o;have:=L.o;omega
       have a7:¬9223372036854775807<T.length+(Lib.itoa q.at_).length+1+(Lib.itoa q.kind).length+1+(Lib.itoa q.from_).length:=by have:=h.o;have:=r.o;have:=L.o;have:=i3.o;omega
       clear o s hS;go_region_held3 (λx=>x.cell? B=Zb q.at_/\x.cell? (B,1)=Zb q.kind/\x.cell? (B,2)=Zb q.from_)
        (first|with_reducible assumption|with_reducible exact Q _ d0|(simp only[an];with_reducible exact Q _ d0)|with_reducible exact Q _ B9.o|with_reducible exact Q _ B8.o|with_reducible exact Q _ B7.o)
        (first|(go_at_call 38;(with_reducible refine(aT.o N.drew).mono ?_);rintro f w7 ⟨rfl,E7⟩;have B7:=Y (d0.t E7))|(go_at_call 38;(with_reducible refine(a3.o w7).mono ?_);rintro f w8 ⟨rfl,E8⟩;have B8:=Y (B7.t E8))|(go_at_call 38;(with_reducible refine(a6.o w8).mono ?_);rintro f w9 ⟨rfl,E9⟩;have B9:=Y (B8.t E9)))
       clear aV aN a2 aR;have⟨y0,y1,y2,y3,y4,y5,y6,y7,y8,y9,a9⟩:=(A.later B9 A.lt).cE;have HH:=Y (xu d.d8 w9);have aQ:¬9223372036854775807<T.length+(Lib.itoa q.at_).length+1+(Lib.itoa q.kind).length+1+(Lib.itoa q.from_).length+1:=by have:=h.o;have:=r.o;have:=L.o;have:=i3.o;omega
       have aK:¬9223372036854775807<T.length+(Lib.itoa q.at_).length+1+(Lib.itoa q.kind).length+1+(Lib.itoa q.from_).length+1+(fp q.d).length:=by have:=h.o;have:=r.o;have:=L.o;have:=i3.o;have:=mF q.d;omega
       have D9:=Y (J.t B9);by_cases z:q.kind=3
       ·have ai:=Y (show pkT q=Lib.itoa q.at_++([32]++(Lib.itoa q.kind++([32]++(Lib.itoa q.from_++([32]++fp q.d))))) by rw[wT,UY z]);have aU:=aQ;have a5:=aK;rw[z] at aU a5;go_wp2_with fail;refine HH.mono ?_;rintro f bb ⟨rfl,aO⟩;have aJ:=Y (D9.t aO);go_wp2;go_roundw
        case rel=>exact⟨k+1,by omega,by go_num,by rw[t,ai,z];simp only[fa,eq],aJ⟩
        case measure=>simp[intOf];omega
       ·have ai:=Y (show pkT q=Lib.itoa q.at_++([32]++(Lib.itoa q.kind++([32]++(Lib.itoa q.from_++[])))) by rw[wT,UX z]);go_wp2;go_roundw
        case rel=>exact⟨k+1,by omega,by go_num,by rw[t,ai];simp only[fa,eq,m7],D9⟩
        case measure=>simp[intOf];omega
    ·have t:H_ (plT e l k=Lib.join ((pks e [] (bM l)).map pkT) [124]):=KK (by rw[R.2];omega);have ba:¬(k:Int)<c:=by omega
     rw[t,<-P];go_wp2;go_ret;exact⟨rfl,i⟩
theorem BC:(cu m Z).n=m/\(cu m Z).ds=Z:=by
 unfold cu
 repeat' split
 all_goals exact⟨rfl,rfl⟩
theorem Lp(H:H_ (Rw v z m j Z i B (⟨#[112,108,97,110]⟩::T)))(y:1<=O)(q:H_ (∀e z,RlP v m (cu j Z) e z->X e z))(hs:U.size=230)(h0:U[0]?=(m,0))(h1:U[1]?=(i,B,O,c))(a:U[8]?=(h,0)):aA Tryz.f14 X 7 ⟨U,[]⟩ z:=by
 have⟨u,d⟩:=fi U;rw[hs] at d;simp only[List.range,List.range.loop,i7,rx] at d;subst d;simp only[OB,Oz,OA,Option.some.injEq] at h0 h1 a;rw[h0,h1,a];clear h0 h1 a hs;have o:=H.at_ 0 _ rfl;rw[wn] at o;have A:(0:Int)<O:=by omega
 have x:0<O:=by omega
 have p:=Y (H.rd.later H.bel);have t:=Y (FC p);refine aj rfl ?_;intro E D;go_wp2_with fail;refine t.mono ?_;rintro e C ⟨rfl,l⟩;go_wp2_with fail;refine q _ _ ?_;have f:=H.bel.trans (l.mono H.bel.size);have⟨r,s⟩:=BC (m:=j) (Z:=Z);refine⟨rfl,?_,f.mono (TP H.rd.lt)⟩;rw[r,s];exact H.rd.later f
theorem Lg{Q:Nat}(H:H_ (Rw v v m j Z i h (S::T)))(y:S.size<=5000)(L:Q<=6000)(N:H_ ((∀k,wds.findIdx? (λx=>x.1==S.data.toList)=some k->¬Q=(wds.getD k ([],0)).2)->∀A V,RlP v m ⟨0,[98,97,100],j,Z⟩ A V->X A V))(z:H_ (∀k,wds.findIdx? (λx=>x.1==S.data.toList)=some k->Q=(wds.getD k ([],0)).2->∀W (t:Array V_),Rw v W m j Z i h (S::T)->t.size=230->t[0]?=(m,0)->t[1]?=(i,h,Q+1,c)->t[6]?=Zb (Q:Int)->aA Tryz.f14 X 4 ⟨t,[]⟩ W)):
 C_ prog 14 #[(m,0),(i,h,Q+1,c)] v X:=by
 refine MX (Y ?_);intro t hs h0 h1 d;obtain⟨W,q⟩:∃W:W_,H_ (W=v.alloc (.map (ent 0 many).toArray 12)):=⟨_,Y rfl⟩;obtain⟨l,s⟩:∃l:Nat,H_ (l=v):=⟨_,Y rfl⟩;have F:=beA q;have E:W.heap[l]?=some (.map (ent 0 many).toArray many.length):=by rw[q,s];first|exact Array.getElem?_push_size|(simp;rfl)|simp
 rw[<-q];rw[<-s] at d;have⟨R,o⟩:=fi t;rw[hs] at o;simp only[List.range,List.range.loop,i7,rx] at o;subst o;simp only[OB,Oz,OA,Option.some.injEq] at h0 h1 d;rw[h0,h1,d];clear h0 h1 d hs;have D:=Y (H.later F);have J:=D.at_ 0 _ rfl;rw[wn] at J;have ad:(0:Int)<(Q:Int)+1:=by omega
 have G:(zeroValue 3).run prog W=.ok (Zb 0) W:=by kernel_rfl
 have a:=vG (w:=W) Tryz.underlying62 E Ks eP y G;rw[Ef] at a;have U:wrap64 (Q:Int)=Q:=by unfold wrap64;omega
 have p:=Y (show ∀x,OS W x->(∀k,wds.findIdx? (λx=>x.1==S.data.toList)=some k->¬Q=(wds.getD k ([],0)).2)->X (Zv (.string ⟨#[98,97,100]⟩)) x from λx O M=>by
  have u:=F.t O;exact N M _ _ ⟨rfl,H.rd.later u,u.mono (TP H.rd.lt)⟩)
 clear G E y L;refine aj rfl ?_;intro K e;cases hf:wds.findIdx? (λx=>x.1==S.data.toList) with
 |none=>
  rw[hf] at a;simp only at a;rw[hf] at p;clear z hf;go_wp2_with fail;refine Met.intro (aj rfl ?_);try clear e K
  intro K e;go_wp2_with fail;exact p _ (ce _ _) (λk f=>by cases f)
 |some k=>
  rw[hf] at a;simp only at a;have f:k<12:=(TY.1 hf).1;rw[Kr f] at a;obtain⟨C,r⟩:∃C:Nat,H_ (C=(wds.getD k ([],0)).2):=⟨_,Y rfl⟩;rw[<-r] at a;have B:=Y hf;clear hf f;go_wp2_with fail;refine Met.intro (aj rfl ?_);try clear e K
  intro K e;by_cases h1:Q=C
  ·subst h1;go_wp2_with fail;exact Met.intro (z k B r _ _ D rfl rfl rfl rfl)
  ·have P:¬(Q:Int)=C:=by omega
   go_wp2_with fail;exact p _ (ce _ _) (λab I=>by rw[B] at I;cases I;rw[<-r];exact h1)
