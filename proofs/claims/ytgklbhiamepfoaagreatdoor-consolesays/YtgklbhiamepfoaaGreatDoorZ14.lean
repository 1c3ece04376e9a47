import Derived.Laws.CopyOwn
import Derived.Test.YtgklbhiamepfoaaGreatDoorZ9
set_option maxHeartbeats 16000000
set_option maxRecDepth 100000
namespace Go.Proofs.YtgklbhiamepfoaaGreatDoor
open Go.Proofs.Tryz Mx
variable {g m c B U T:Nat}{l M:List B8}{w:World}{Z:Pt}{d D:B8}{X:List Pt}{x:Int}{W V:List Value}{q p:Option Addr}
open Go.RowKit
section
variable {bs:List Int}{j n:Nat}
namespace Mx
def wE(k:Nat)(d o:B8):B8:=
 ⟨if 0<k then d.z0 else o.z0,if 1<k then d.z1 else o.z1,if 2<k then d.z2 else o.z2,if 3<k then d.z3 else o.z3,if 4<k then d.z4 else o.z4,if 5<k then d.z5 else o.z5,if 6<k then d.z6 else o.z6,if 7<k then d.z7 else o.z7⟩
theorem Ku(k:Nat)(c:k<=8)(d o:B8):(wE k d o).cs=d.cs.take k++o.cs.drop k:=by
 match k,c with
 |0,_=>rfl
 |1,_=>rfl
 |2,_=>rfl
 |3,_=>rfl
 |4,_=>rfl
 |5,_=>rfl
 |6,_=>rfl
 |7,_=>rfl
 |8,_=>rfl
 |n+9,h=>omega
def ll(l:List B8)(p:Pt)(k:Nat):List B8:=match l[p.at_.toNat]? with
 |some o=>l.set p.at_.toNat (wE k p.d o)
 |none=>l
def fW(ls:List B8)(ps:List Pt)(bs:List Int)(j:Nat):List B8:=((ps.zip bs).take j).foldl (λl x=>ll l x.1 (kept x.2).toNat) ls
def qP(ls:List B8)(ps:List Pt)(bs:List Int):List B8:=(ps.zip bs).foldl (λl x=>ll l x.1 (kept x.2).toNat) ls
theorem Gc(l:List B8)(p:Pt)(k:Nat):(ll l p k).length=l.length:=by unfold ll;split<;>simp
theorem Jm(k:Nat)(h:l[Z.at_.toNat]?=d):ll l Z k=l.set Z.at_.toNat (wE k Z.d d):=by unfold ll;rw[h]
theorem CW(d:List B8)(c:List (Pt×Int)):(c.foldl (λl x=>ll l x.1 (kept x.2).toNat) d).length=d.length:=by
 induction c generalizing d with
 |nil=>rfl
 |cons x c e=>rw[RK,e,Gc]
theorem qR(c:List B8)(d:List Pt)(bs:List Int)(j:Nat):(fW c d bs j).length=c.length:=CW _ _
theorem xW(c:X[j]?=Z)(e:bs[j]?=x):fW l X bs (j+1)=ll (fW l X bs j) Z (kept x).toNat:=by
 have d:(X.zip bs)[j]?=some (Z,x):=List.getElem?_zip_eq_some.2 ⟨c,e⟩;unfold fW;rw[az _ _ d,dT];rfl
theorem qQ(h:X.length<=j\/bs.length<=j):fW l X bs j=qP l X bs:=by
 unfold fW qP;rw[OL];rw[List.length_zip];rcases h with h|h<;>omega
end Mx
theorem xZ(h:l[j]?=d):
 bp l=bp (l.take j)++(d.cs++bp (l.drop (j+1)))/\bp (l.set j D)=bp (l.take j)++(D.cs++bp (l.drop (j+1)))/\(bp (l.take j)).length=j*8:=by
 have f:j<l.length:=(OI.1 h).1;have e:l=l.take j++d::l.drop (j+1):=by
  have:=(OI.1 h).2;rw[<-this,List.getElem_cons_drop,qr]
 have c:l.set j D=l.take j++D::l.drop (j+1):=List.set_eq_take_append_cons_drop▸(by rw[UY f]);refine⟨?_,?_,?_⟩
 ·conv=>lhs;rw[e]
  simp[bp,List.flatMap_append,List.flatMap_cons]
 ·rw[c];simp[bp,List.flatMap_append,List.flatMap_cons]
 ·rw[cY,OM];have:min j l.length=j:=by omega
  rw[this]
theorem ay.apart(h:ay w m (g,n,c) l):
 m<=g/\g<w/\l.length=n/\∃(d:List Value) (u:List Value),w.heap[g]?=some (.cells d.toArray 65)/\d=bp l++u/\
  ∀(p:World) (e:List Value) (f:List B8),p.heap[g]?=some (.cells e.toArray 65)->e=bp f++u->f.length=l.length->ay p m (g,n,c) f:=by
 rcases h.2 with ⟨o,_⟩|⟨B,C,d,o,v,t,A,x,y,z⟩
 ·cases o
 ·simp only[Value.slice.injEq,Option.some.injEq,Addr.mk.injEq,US] at o;obtain⟨rfl,r,rfl⟩:=o;have s:d.toList=bp l++d.toList.drop (l.length*8):=by
   conv=>lhs;rw[<-qr (l.length*8) d.toList]
   rw[z]
  refine⟨v,(co.1 t).1,r.symm,d.toList,d.toList.drop (l.length*8),by simpa using t,s,λp e f h1 h2 q=>?_⟩;refine⟨by rw[cY],.inr ⟨g,c,e.toArray,by rw[q,r],v,h1,by rw[q];exact A,x,?_,?_⟩⟩
  ·have:e.length=d.toList.length:=by
    rw[h2,s];simp only[OC,cY,q,ge];omega
   simpa using this.trans (by simpa using y)
  ·rw[List.toList_toArray,h2,<-cY f,UC]
theorem ay.spliced(hc:W=bp l++V)(t:∀(w:World) (f:List Value) (e:List B8),w.heap[g]?=some (.cells f.toArray 65)->f=bp e++V->e.length=l.length->ay w c (g,n,B) e)(q:l[j]?=D)(u:m<=8)(o:w.heap[g]?=some (.cells (splice W (j*8) (d.cs.take m)).toArray 65)):
 ay w c (g,n,B) (l.set j (wE m d D)):=by
 have⟨v,s,p⟩:=xZ q (D:=wE m d D);refine t w _ _ o ?_ (by simp);have r:(d.cs.take m).length=m:=by rw[OM];have:d.cs.length=8:=rfl;omega
 rw[hc,v,s,Ku m u];unfold splice;rw[r,eq,List.take_append_of_le_length (by omega),OL (by omega),<-p,List.drop_append,Pi (by omega),Nat.add_sub_cancel_left,pp,eq,List.drop_append_of_le_length (by have:D.cs.length=8:=rfl;omega)];simp[List.append_assoc]
end
section
variable {n h i k:Nat}{a b:Int}
namespace Mx
def sz(n:Nat):Nat:=1+2*(1+n)
def npl(n h:Nat):Nat:=1+h*(1+n)
def bpl(n h i:Nat):Nat:=1+h*(1+n)+1+i
theorem rH(c:h<=1):npl n h<sz n:=by unfold npl sz;match h,c with|0,_=>omega|1,_=>omega
theorem nJ(c:h<=1)(d:i<n):bpl n h i<sz n:=by unfold bpl sz;match h,c with|0,_=>omega|1,_=>omega
theorem KA(n h:Nat):0<npl n h:=by unfold npl;omega
theorem JX(n h i:Nat):0<bpl n h i:=by unfold bpl;omega
theorem Kz(d:h<=1)(c:g<=1)(e:i<n):npl n h≠bpl n g i:=by
 unfold npl bpl
 match h,d,g,c with
 |0,_,0,_=>omega
 |0,_,1,_=>omega
 |1,_,0,_=>omega
 |1,_,1,_=>omega
theorem JW(e:h<=1)(d:m<=1)(l:i<n)(f:g<n)(c:bpl n h i=bpl n m g):h=m/\i=g:=by
 unfold bpl at c
 match h,e,m,d with
 |0,_,0,_=>omega
 |0,_,1,_=>omega
 |1,_,0,_=>omega
 |1,_,1,_=>omega
def ou(x y z t:Int):Int:=((x*256+y)*256+z)*256+t
def Ch(x:B8):Int:=ou x.z0 x.z1 x.z2 x.z3
def Cj(x:B8):Int:=ou x.z4 x.z5 x.z6 x.z7
def eH(a b:Int):B8:=⟨a/16777216,a/65536%256,a/256%256,a%256,b/16777216,b/65536%256,b/256%256,b%256⟩
theorem Ci(_:0<=a)(_:a<=2147483647):Ch (eH a b)=a:=by unfold Ch ou eH;simp only;omega
theorem Cl(_:0<=b)(_:b<=2147483647):Cj (eH a b)=b:=by unfold Cj ou eH;simp only;omega
theorem kY(c:List B8)(k:Int):eB c [] k=c.getD k.toNat zB:=rfl
theorem iT(d:List B8)(c:List Pt)(p:Pt)(k:Int):eB d (c++[p]) k=if p.at_=k then p.d else eB d c k:=by
 unfold eB;rw[List.reverse_append];simp only[List.reverse_singleton,List.singleton_append,List.find?_cons];by_cases h:p.at_=k
 ·simp[h]
 ·have h1:(p.at_==k)=false:=by simpa using h
  rw[h1,UX h]
theorem iI(c:List B8)(e:List Pt)(l:∀p∈e,0<=p.at_/\p.at_<c.length)(k:Nat):(aH c e).getD k zB=eB c e (k:Int):=by
 have o:∀(d:List Pt),(∀p∈d,0<=p.at_/\p.at_<c.length)->(aH c d.reverse).getD k zB=eB c d.reverse (k:Int):=by
  intro d;induction d with
  |nil=>intro _;rw[List.reverse_nil,kY,m6];rfl
  |cons p d q=>
   intro h;have h1:=h p (li ..);rw[List.reverse_cons,iT,<-q (λx f=>h x (gt _ f))];have m:aH c (d.reverse++[p])=(aH c d.reverse).set p.at_.toNat p.d:=by unfold aH;rw[dT];rfl
   rw[m,Oy,List.getElem?_set];by_cases g:p.at_=(k:Int)
   ·rw[UY g,UY (by omega),UY (by rw[dD];omega)];rfl
   ·rw[UX g,UX (by omega),Oy]
 have h:=o e.reverse (λp f=>l p (by simpa using f))
 rwa [List.reverse_reverse] at h
theorem Fv(d:List B8)(c:List Pt)(k:Int)(h:∀p∈c,p.at_≠k):eB d c k=d.getD k.toNat zB:=by
 unfold eB;rw[List.find?_eq_none.2];intro p e;have:=h p (by simpa using e);simpa using this
structure zZ (n h:Nat) (ls:List B8) (bl:List B8) (a b:Int):Prop where
 len:ls.length=sz n
 bln:bl.length=n
 half:h<=1
 mark:(ls.getD 0 zB).z0%2=(h:Int)
 blk:∀i,i<n->ls.getD (bpl n h i) zB=bl.getD i zB
 al:ls.getD (npl n h) zB=eH a b
theorem DE(n:Nat):zZ n 0 (List.replicate (sz n) zB) (List.replicate n zB) 0 0:=by
 have c:∀k m,(List.replicate m zB).getD k zB=zB:=λk m=>by
  rw[Oy,List.getElem?_replicate];split<;>rfl
 refine⟨by simp,by simp,by omega,by rw[c];rfl,λi _=>by rw[c,c],by rw[c];rfl⟩
def dH(n h:Nat)(bl:List B8)(k:Nat):List Pt:=(List.range k).map (λi=>⟨(bpl n h i:Int),bl.getD i zB⟩)
theorem rj(n h:Nat)(c:List B8)(k:Nat):dH n h c (k+1)=dH n h c k++[⟨(bpl n h k:Int),c.getD k zB⟩]:=by unfold dH;rw[Ui,le];rfl
theorem ju(n h:Nat)(c:List B8)(k:Nat):(dH n h c k).length=k:=by unfold dH;simp
theorem tq(c:Z∈dH n h l k):∃i,i<k/\Z.at_=(bpl n h i:Int):=by
 unfold dH at c;rw[m8] at c;obtain⟨i,d,rfl⟩:=c;exact⟨i,by simpa using d,rfl⟩
theorem As(d:h<=1)(o:k<=n)(g:i<k):eB M (dH n h l k) (bpl n h i:Int)=l.getD i zB:=by
 induction k with
 |zero=>omega
 |succ k f=>
  rw[rj,iT];by_cases c:i=k
  ·subst c;rw[UY rfl]
  ·have e:¬(((bpl n h k:Nat):Int)=((bpl n h i:Nat):Int)):=λm=>c (JW d d (by omega) (by omega) (show bpl n h i=bpl n h k by omega)).2
   rw[UX e];exact f (by omega) (by omega)
def gq(n h:Nat)(bl:List B8)(a b:Int):List Pt:=dH n h bl n++[⟨(npl n h:Int),eH a b⟩]
theorem Kw(c:Z∈gq n h l a b):(∃i,i<n/\Z.at_=(bpl n h i:Int))\/Z.at_=(npl n h:Int):=by
 unfold gq at c;rcases ip.1 c with h1|h1
 ·exact .inl (tq h1)
 ·simp at h1;exact .inr (by rw[h1])
def j4(h:Nat):Pt:=⟨0,⟨(h:Int),0,0,0,0,0,0,0⟩⟩
end Mx
end
theorem lS(n:Int)(w:World)(h0:0<=n)(h1:n<=1000):
 Calls prog 205 #[n] w λe c=>e=Zv (Zb (1+n))/\c=w:=by
 go_enter func205,ntmps205;go_wp2;go_ret;exact⟨rfl,rfl⟩
theorem zC(w:World)(h0:1<=g)(h1:g<=32):
 Calls prog 206 #[g] w λe d=>e=Zr #[Zb ((sz g:Nat):Int),Zn]/\d=w:=by
 have l:decide ((g:Int)<1)=false:=by simp;omega
 have m:decide ((32:Int)<g)=false:=by simp;omega
 have c:=Y (show((sz g:Nat):Int)=1+2*(1+(g:Int)) by unfold sz;omega);go_enter func206,ntmps206;go_wp2_with fail;refine(lS g w (by omega) (by omega)).mono ?_;rintro e f ⟨rfl,rfl⟩;go_wp2_with fail;go_ret2;exact⟨by rw[c]<;>rfl,rfl⟩
def Sbx(w:World)(g n h:Nat)(sa:Option Addr)(sn sc:Nat)(pa:Option Addr)(pn pc:Nat)(left:Int):Prop:=
 Bx w g #[Zb (n:Int),Zb (h:Int),(sa,sn,sc),(pa,pn,pc),Zb left] 279
theorem Sbx.cells{d:Nat}(hx:Sbx w d g m q c B p U T x):
 w.cell? d=Zb (g:Int)/\w.cell? (d,1)=Zb (m:Int)/\w.cell? (d,2)=(q,c,B)/\w.cell? (d,3)=(p,U,T)/\w.cell? (d,4)=Zb x:=
 ⟨hx.cell 0,hx.cell 1,hx.cell 2,hx.cell 3,hx.cell 4⟩
theorem gH(hc:w.cell? g=Zb (m:Int))(f:1<=m):
 Calls prog 160 #[(g,0)] w λe c=>e=Zv Zn/\c=w:=by
 have d:((m:Int)==0)=false:=by simp;omega
 have l:(m==0)=false:=by simp;omega
 go_enter func160,ntmps160;go_wp2;go_ret;exact⟨rfl,rfl⟩
theorem qt(c:Int)(hc:w.cell? g=Zb (m:Int)):
 Calls prog 174 #[(g,0),c] w λf l=>f=Zv (Zl (inside m c))/\l=w:=by
 by_cases h1:0<=c
 ·have e:decide (0<=c)=true:=by simpa using h1
  by_cases h2:c<m
  ·have o:decide (c<(m:Int))=true:=by simpa using h2
   have d:=Y (show inside m c=true by unfold inside;simp;omega);go_enter func174,ntmps174;go_wp2;go_ret;exact⟨by rw[d]<;>rfl,rfl⟩
  ·have o:decide (c<(m:Int))=false:=by simpa using h2
   have d:=Y (show inside m c=false by unfold inside;simp;omega);go_enter func174,ntmps174;go_wp2;go_ret;exact⟨by rw[d]<;>rfl,rfl⟩
 ·have e:decide (0<=c)=false:=by simpa using h1
  have d:=Y (show inside m c=false by unfold inside;simp;omega);go_enter func174,ntmps174;go_wp2;go_ret;exact⟨by rw[d]<;>rfl,rfl⟩
theorem fQ(d:Nat)(hc:w.cell? d=Zb (g:Int))(q:g<=32)(f:m<=1):
 Calls prog 162 #[(d,0),m] w λe o=>e=Zv (Zb ((npl g m:Nat):Int))/\o=w:=by
 have⟨z,c⟩:=ZX (m*(1+g));have p:z<=33:=by rw[c];match m,f with|0,_=>omega|1,_=>omega
 have s:IntKind.i64.wrap ((m:Int)*(1+(g:Int)))=(z:Int):=by
  have h1:(m:Int)*(1+(g:Int))=(z:Int):=by rw[c];push_cast;rfl
  rw[h1,IntWalk.i64_left,IntWalk.wrap64_in _ (by omega)]
 have l:=Y (show((npl g m:Nat):Int)=1+(z:Int) by unfold npl;rw[<-c];omega);go_enter func162,ntmps162;go_wp2_with fail;refine(lS g w (by omega) (by omega)).mono ?_;rintro e r ⟨rfl,rfl⟩;go_wp2_with fail;go_ret;exact⟨by rw[l]<;>rfl,rfl⟩
theorem oz(d:Nat)(hc:w.cell? d=Zb (g:Int))(q:g<=32)(l:m<=1)(s:c<g):
 Calls prog 175 #[(d,0),m,c] w λe r=>e=Zv (Zb ((bpl g m c:Nat):Int))/\r=w:=by
 have p:npl g m<=100:=by unfold npl;match m,l with|0,_=>omega|1,_=>omega
 have o:=Y (show((bpl g m c:Nat):Int)=(npl g m:Nat)+1+(c:Int) by unfold bpl npl;omega);have⟨z,f⟩:=ZX (npl g m);rw[<-f] at p o;go_enter func175,ntmps175;go_wp2_with fail;refine(fQ d hc q l).mono ?_;rintro e t ⟨rfl,rfl⟩;rw[<-f];go_wp2_with fail;go_ret;exact⟨by rw[o]<;>rfl,rfl⟩
