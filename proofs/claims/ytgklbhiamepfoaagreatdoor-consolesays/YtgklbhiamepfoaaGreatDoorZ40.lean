import Derived.Test.YtgklbhiamepfoaaGreatDoorZ37
import Derived.Test.YtgklbhiamepfoaaGreatDoorZ39
set_option maxHeartbeats 16000000
set_option maxRecDepth 100000
namespace Go.Proofs.YtgklbhiamepfoaaGreatDoor
open Go.Proofs.Tryz Mx
variable {w:World}{Z:ByteArray}{n g:Nat}{X:List De}{W:List ByteArray}
open Go.RowKit
theorem RD.new(w:World):RD (w.alloc (.cells #[Zi,Zs,.pointer none] 50)) w 0 []:=
 ⟨none,0,0,none,Bx.new _ _ _,rfl,t8 _ _ _ _,λh=>absurd h (by omega),by decide,by decide,λy a=>by cases a⟩
theorem RD.bC(h:RD w g n X):n<=32/\X.length<=300/\∀y∈X,y.ok:=by
 have⟨b,m,d,c,a⟩:=h;exact⟨a.n2,a.m3,a.ok⟩
theorem H5{s:Tx}(h:W.map tx=cut 10 s)(a:W.length=n+1)(d:W[n]?=Z):(tx Z=[]->(W.take n).map tx=lns s)/\(tx Z≠[]->(W.take (n+1)).map tx=lns s):=by
 have c:(cut 10 s).getLast?=some (tx Z):=by
  rw[<-h,List.getLast?_eq_getElem?,pm,a,UH,i8,d];rfl
 unfold lns;rw[c];refine⟨λe=>?_,λe=>?_⟩
 ·rw[UY (by rw[e]),<-h,List.dropLast_eq_take,pm,a,UH,List.map_take]
 ·rw[UX (λb=>e (OG b)),OL (by omega),h]
theorem xy:
 Calls prog 5 #[.string Z] w λe j=>e=Zv (.string ⟨(qp (tx Z)).toArray⟩)/\Hid (OS w j):=by
 by_cases hl:4000<Z.size
 ·have h1:(4000:Int)<(Z.size:Int):=by omega
  have HT:Hid (qp (tx Z)=_):=UY hl;rw[HT];go_enter func5,ntmps5;go_wp2_with fail;go_ret;exact⟨rfl,(ce _ _)⟩
 ·have h1:¬(4000:Int)<(Z.size:Int):=by omega
  have HT:Hid (qp (tx Z)=_):=UX hl;rw[HT];have HS:=Y (show Z.size<=4000 by omega);have y:Hid (Calls prog 13 #[.string Z,Za 10] w λe j=>∃a n i,e=Zv (.slice (some n) a.length i)/\Hid (a.map tx=cut 10 (tx Z))/\Hid (jb j w (.slice (some n) a.length i) a)/\Hid (OS w j)):=Y (zb (V:=Z) 10 w (by omega));clear hl;go_enter func5,ntmps5;go_wp2_with fail;refine y.mono ?_;clear y h1;rintro e t ⟨q,n,i,rfl,A,O1,B1⟩;obtain⟨-,ah,u⟩:=O1.read;have al:0<q.length:=by
   have h:=lP 10 (tx Z);rw[<-A] at h;exact TG.2 (λe=>h (by rw[e];rfl))
  have⟨lb,lo,ae,aj,v⟩:=u al;cases ae
  obtain⟨P,C⟩:∃P,q.length=P+1:=⟨q.length-1,by omega⟩;have ax:P<=4000:=by
   have h:=oL 10 (tx Z);rw[<-A,pm,C] at h;have h8:(tx Z).length<=4000:=HS.o;omega
  have ab:=Y v;have ar:=Y (show ∀x∈q,x.size<=5000 from λx d=>by
   have h:=qT 10 (tx Z) (tx x) (by rw[<-A];exact TM d);have h8:(tx Z).length<=4000:=HS.o;have h7:x.size=(tx x).length:=Lib.size_eq x;omega)
  obtain⟨z,R⟩:∃z,q[P]?=some z:=⟨_,Ox (by omega)⟩;have cz:=ab P z R;have T:=Y (H5 A C R);have HP:=Y C;rw[C] at ah ⊢;have aw:wrap64 (P:Int)=P:=by unfold wrap64;omega
  have aB:(P:Int)<(P:Int)+1:=by omega
  have aD:(0:Int)<=P:=by omega
  have av:(P:Int)<=i:=by omega
  have aC:P<=i:=by omega
  have l:=Y (ByteArray.toList_eq z);clear v u al R C A O1 ah;rcases Classical.em (tx z=[]) with f|f
  case' inl=>
   have Q:(z.toList==[])=true:=by rw[l];exact(by simpa using f)
   have N:z.toList.isEmpty=true:=by rw[l];exact(by simpa using f)
   have X:z.toList=[]:=by rw[l];exact f
   have B:=Y (T.1 f);go_upto_region 6 with fail;obtain⟨m,r⟩:∃m:Nat,Hid (m=P):=⟨_,Y rfl⟩;have H:=Y (show m<=P+1 by rw[r];omega);rw[<-r] at B ⊢;clear Q N X
  case' inr=>
   have Q:(z.toList==[])=false:=by rw[l];exact(by simpa using f)
   have N:z.toList.isEmpty=false:=by rw[l];exact(by simpa using f)
   have X:¬z.toList=[]:=by rw[l];exact f
   have B:=Y (T.2 f);go_upto_region 6 with fail;obtain⟨m,r⟩:∃m:Nat,Hid (m=P+1):=⟨_,Y rfl⟩;have H:=Y (show m<=P+1 by rw[r];omega);rw[<-r] at B ⊢;clear Q N X
  all_goals
   clear f T cz aw aB aD av aC l r;obtain⟨L,E⟩:∃L,Hid (L=q.take m):=⟨_,Y rfl⟩;rw[<-E] at B;have aq:=Y (show L.length=m by rw[E,OM,HP];have:=H.o;omega);have aH:m<=4001:=by have:=H.o;omega
   have ay:=Y (show ∀k x,L[k]?=some x->t.cell? (lb,lo+k)=some (.string x)/\x.size<=5000 from λk x d=>by
    rw[E] at d;have am:q[k]?=some x:=by
     rw[Uo] at d;split at d
     ·exact d
     ·cases d
    exact⟨ab k x am,ar x (OR am)⟩)
   obtain⟨W,J⟩:∃W:World,Hid (W=t.alloc (.cells #[Zi,Zs,.pointer none] 50)):=⟨_,Y rfl⟩;obtain⟨g,s⟩:∃g:Nat,Hid (g=t):=⟨_,Y rfl⟩;have HR:Hid (RD W g 0 []):=(by rw[J,s];exact RD.new t);have BW:Hid (Below g t W):=(by rw[J,s];exact af);have az:lb<g:=by rw[s];exact aj
   have au:Hid (w<=g):=(by rw[s];exact B1.size);clear E ab ar HP H aj ax;go_upto_region 7 with fail;rw[<-J,<-s];clear J s;go_wp2_with fail;go_loopw [5,6] (λo M wr=>∃k:Nat,k<=m/\M=Zb (k:Int)/\o=.string ⟨(ses ((L.take k).map tx)).1.toArray⟩/\Hid ((ses ((L.take k).map tx)).1.length<=9001*k)/\Hid (RD wr g (ses ((L.take k).map tx)).2.1 (ses ((L.take k).map tx)).2.2)/\Hid (Below g t wr)) (λ_ M _=>m-(intOf M).toNat)
   case atStart=>exact⟨0,ol _,rfl,rfl,(ol _),HR,BW⟩
   case round=>
    obtain⟨k,hk,rfl,rfl,G,D,hB⟩:=hrel;by_cases aA:k<m
    ·have aI:(k:Int)<m:=by omega
     have aJ:(0:Int)<=k:=by omega
     obtain⟨x,d⟩:∃x,L[k]?=some x:=⟨_,Ox (by rw[aq];exact aA)⟩;have⟨ap,ai⟩:=ay k x d;have cx:=(hB.cell (p:=(lb,lo+k)) az).trans ap;have y:Hid (Calls prog 13 #[.string x,Za 32] wr λe j=>∃a n i,e=Zv (.slice (some n) a.length i)/\Hid (a.map tx=cut 32 (tx x))/\Hid (jb j wr (.slice (some n) a.length i) a)/\Hid (OS wr j)):=Y (zb 32 wr ai);obtain⟨b,an⟩:∃b,Hid (b=ses ((L.take k).map tx)):=⟨_,Y rfl⟩;rw[<-an] at G D ⊢;have HN:=Y (show ses ((L.take (k+1)).map tx)=xD b (tx x) by rw[an,<-kF,up,d,le];rfl);have ak:=Y (show(tx x).length<=5000 by have h7:x.size=(tx x).length:=Lib.size_eq x;omega);clear d ap ai;go_wp2_with fail;refine y.mono ?_;clear y cx;rintro e w5 ⟨a,n,c5,rfl,F,O5,B5⟩;obtain⟨-,-,u⟩:=O5.read;have U:a≠[]:=λe=>lP 32 (tx x) (by rw[<-F,e];rfl)
     have⟨wb,wo,ae,ao,v⟩:=u (TG.2 U);cases ae
     have K:=Y (Fz (c:=c5) U (λI hy=>by
      have h:=qT 32 (tx x) (tx I) (by rw[<-F];exact TM hy);have h8:=ak.o;have h7:I.size=(tx I).length:=Lib.size_eq I;omega) (by
      have h:=oL 32 (tx x);rw[<-F,pm] at h;have h8:=ak.o;omega) (⟨D.later B5,ce _ _,ao,v⟩:Rw w5 w5 g b.2.1 b.2.2 wb wo a))
     rw[F] at K;obtain⟨o,S⟩:∃o,Hid (o=fP b.2.1 b.2.2 (cut 32 (tx x))):=⟨_,Y rfl⟩;rw[<-S] at K;have ag:Hid (o.tx.length<=9000):=(by rw[S];have⟨f1,f2,f3⟩:=D.bC;exact uV (sE _ f1 f2 f3));have O:=Y (show ses ((L.take (k+1)).map tx)=(b.1++(o.tx++[10]),o.n,o.ds) by rw[HN,S];rfl);have aF:¬9223372036854775807<b.1.length+o.tx.length:=by have:=ag.o;have:=G.o;omega
     have aG:¬9223372036854775807<b.1.length+o.tx.length+1:=by have:=ag.o;have:=G.o;omega
     have C5:=Y (hB.trans (B5.mono (TP D.lt)));clear U v u ao O5 HN;go_wp2_with fail;refine K.mono ?_;clear K;rintro e w6 ⟨rfl,R6,B6⟩;have R6:=Y R6;have C6:=Y (C5.trans B6);clear B6;go_wp2_with fail;go_roundw
     case rel=>exact⟨k+1,by omega,by go_num,by rw[O];simp only[fa,eq],Y (by rw[O];show(b.1++(o.tx++[10])).length<=_;rw[OC,OC];show _+(_+1)<=_;have:=ag.o;have:=G.o;omega),Y (by rw[O];exact R6),C6⟩
     case measure=>simp[intOf];omega
    ·have aE:k=m:=by omega
     subst aE;have HE:=Y (show(L.take k).map tx=lns (tx Z) by rw[OL (by rw[aq.o];exact OJ _),B.o]);rw[HE];go_wp2_with fail;go_ret;exact⟨rfl,(B1.trans (hB.mono au))⟩
theorem qM(c:Gv w):
 Calls prog 3 #[.string Z] w λe i=>e=Zv (Zl true)/\OS w i:=by
 by_cases k:4100<Z.size
 ·have h1:(4100:Int)<(Z.size:Int):=by omega
  go_enter func3,ntmps3;go_wp2_with fail;go_ret;exact⟨rfl,ce _ _⟩
 ·have h1:¬(4100:Int)<(Z.size:Int):=by omega
  have a:=Y (xj (W:=Z) c);obtain⟨T,d⟩:∃T:ByteArray,Hid (T=⟨(qp (tx Z)).toArray⟩):=⟨_,Y rfl⟩;have b:=Y (λx=>xy (Z:=Z) (w:=x));rw[<-d] at a b;go_enter func3,ntmps3;go_wp2_with fail;refine a.mono ?_;rintro e g ⟨rfl,f⟩;go_wp2_with fail;refine(b g).mono ?_;rintro e j ⟨rfl,h⟩;go_wp2_with fail;go_ret;exact⟨rfl,f.t h⟩
