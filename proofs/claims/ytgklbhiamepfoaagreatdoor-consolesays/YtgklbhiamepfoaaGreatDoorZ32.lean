import Derived.Test.YtgklbhiamepfoaaGreatDoorZ11
import Derived.Test.YtgklbhiamepfoaaGreatDoorZ31
set_option maxHeartbeats 16000000
set_option maxRecDepth 100000
namespace Go.Proofs.YtgklbhiamepfoaaGreatDoor
open Go renaming World->W_,Value->V_,Addr->A_
open Go.Proofs.Tryz Mx
variable {Z:List De}{k:Nat}{v:V_}{u:W_}{X:List V_}{W:TypeId}{q:Option A_}{V:ByteArray}{U:A_}
open Go.RowKit
section
variable {g n m c:Nat}{w w':W_}{cs:Array V_}{a:Option A_}{bv:V_}
def Sg(g:Nat)(w:W_)(k:Nat):Prop:=k=g\/g<k/\∃cs f,w.heap[k]?=some (.cells cs 5 f)
def Fd(g:Nat)(w w':W_):Prop:=Ex (Sg g w) w w'
theorem Fd.refl(g:Nat)(w:W_):Fd g w w:=Ex.refl _ w
theorem Fd.trans{g:Nat}{w w' d:W_}(h:Fd g w w')(b:Fd g w' d):Fd g w d:=
 ⟨⟨OP h.size b.size,λi f hs=>by
  have e:=h.block i f hs;exact(b.block i (OE f h.size) (λj=>hs (by unfold Sg at*;rwa [e] at j))).trans e⟩,b.os.trans h.os,b.tape.trans h.tape,b.output.trans h.output⟩
theorem Fd.of(h:OS w w'):Fd g w w':=⟨Ext.below h,h.os,h.tape,h.output⟩
theorem Fd.below(h:Fd g w w')(b:g<=w):Below g w w':=⟨h.os,h.tape,h.output,h.size,λk d=>h.block k (by omega) (λe=>by rcases e with e|e<;>omega)⟩
theorem Fd.set(w:W_)(i:Nat)(v:V_):Fd g w (w.setCell (g,i) v):=
 ⟨⟨by simp[World.setCell],λb _ hs=>jp _ _ _ _ (λe=>hs (.inl e))⟩,rfl,rfl,rfl⟩
theorem Fd.grown(h:w.grownBy w' v.ownBlock)(j:w.ownsRow k 5 1 v n X)(o:g<k):Fd g w w':=
 ⟨⟨h.size,λi d hs=>h.block i d (λe=>hs (.inr (by
  rcases j.2 with ⟨b,_⟩|⟨f,p,l,b,q,hc,_⟩
  ·rw[b] at e;cases e
  ·rw[b] at e;cases e;exact⟨by show g<f;omega,l,_,hc⟩)))⟩,h.os,h.tape,h.output⟩
theorem Fd.keeps(h:Fd g w w')(d:Bx w g cs W):KeepsOthers w w':=⟨h.size,λj o b hc=>by
 refine(h.block j (co.1 b).1 (λe=>?_)).trans b;rcases e with rfl|⟨_,cs,f,e⟩
 ·rw[d] at b;cases b;cases hc
 ·rw[e] at b;cases b;cases hc⟩
def Scr(w:W_)(a:Option A_)(m:Nat)(ds:List De):Prop:=DL w a m ds/\(0<m->∃p cs f,a=some p/\w.heap[p.block]?=some (.cells cs 67 f))/\(m=0->a=none)
theorem Scr.fr(x:Scr w a m Z)(l:Fd g w w')(t:Bx w g cs 31):Scr w' a m Z:=by
 have⟨⟨h1,h2,z⟩,r,v⟩:=x;have h:0<m->∀p,a=some p->w'.heap[p.block]?=w.heap[p.block]?:=λh0 p d=>by
  have⟨E,c,o,k,hc⟩:=r h0;rw[d] at k;cases k;refine l.block _ (co.1 hc).1 (λe=>?_);rcases e with e|⟨_,C,D,e⟩
  ·rw[e,t] at hc;cases hc
  ·rw[e] at hc;cases hc
 refine⟨⟨h1,h2,λh0=>?_⟩,λh0=>?_,v⟩
 ·have⟨b,f,q,s,hc⟩:=z h0;exact⟨b,f,q,OE s l.size,λi B y j u A=>(ii (a:=⟨b,f+i*11+j,none⟩) (show w'.heap[b]?=w.heap[b]? from h h0 ⟨b,f,none⟩ q)).trans (hc i B y j u A)⟩
 ·have⟨p,c,o,d,hc⟩:=r h0;exact⟨p,c,o,d,(h h0 p d).trans hc⟩
structure DX (w:W_) (g:Nat) (pa:Option A_) (bv:V_) (n:Nat) (a:Option A_) (m c:Nat) (out:Mx.Tx) (ds:List De):Prop where
 bx:Bx w g #[.pointer pa,bv,.int .i64 (n:Int),.slice a m c] 31
 pn:pa=none\/pa=some ⟨g,0,none⟩
 row:w.ownsRow (g+1) 5 1 bv out.length (Lib.byteCells out)
 sc:Scr w a m ds
 mc:m<=c
 nb:out=[]->bv=.slice none 0 0
def Dsk(w:W_)(g:Nat)(out:Tx)(n:Nat)(ds:List De):Prop:=∃pa bv a m c,DX w g pa bv n a m c out ds
theorem DX.later{w w':W_}{g:Nat}{f:Option A_}{bv:V_}{n:Nat}{a:Option A_}{m c:Nat}{d:Tx}{e:List De}(h:DX w g f bv n a m c d e)(b:OS w w'):DX w' g f bv n a m c d e:=
 ⟨h.bx.later b h.bx.lt,h.pn,aW h.row b,h.sc.fr (Fd.of b) h.bx,h.mc,h.nb⟩
theorem Dsk.later{w w':W_}{g:Nat}{b:Tx}{n:Nat}{d:List De}(h:Dsk w g b n d)(e:OS w w'):Dsk w' g b n d:=by
 have⟨f,bv,a,m,c,h⟩:=h;exact⟨f,bv,a,m,c,h.later e⟩
theorem yT{f:Tx}(h:DX w g q bv n a m c f Z):
 Calls prog 29 #[(g,0)] w λe w'=>e=Zr #[]/\Hid (DX w' g (some ⟨g,0,none⟩) bv n a m c f Z)/\Hid (Fd g w w'):=by
 have c0:=h.bx.cell 0;simp only[OB,Oz] at c0;have l:=h.bx.frozen;rcases h.pn with rfl|rfl
 ·have H:=Y h;have⟨s,d,i⟩:=Option.map_eq_some_iff.1 xQ.sizeBuilder;have b:w.shape? g=some (31,4):=by unfold World.shape?;rw[show w.heap[g]?=_ from h.bx];rfl
  have o:=Lib.run_to_unsafe (P:=prog) w ⟨g,0,none⟩ Tryz.underlying25 Tryz.underlying112 d (by rw[i];decide) b (by show 0<4;decide);have p:=Lib.run_from_unsafe (P:=prog) w ⟨g,0,none⟩ Tryz.underlying112 Tryz.underlying25 d b (by kernel_rfl);have k:(callFunc 60 #[(g,0)]).run prog w=.ok (.value (g,0)) w:=by
   rw[run_callFunc_extern func60 (by kernel_rfl) (by kernel_rfl) (by kernel_rfl) (e:=Extern.AbiNoEscape.same) (by kernel_rfl),Lib.run_noEscape];rfl
  clear h d i b;go_enter func29,ntmps29;go_wp2;go_end0;have j:=H.bx.set 0 (g,0);refine⟨rfl,⟨by simpa using j,.inr rfl,aB H.o.row (λe=>?_),H.o.sc.fr (Fd.set w 0 _) H.o.bx,H.o.mc,H.o.nb⟩,(Fd.set w 0 _)⟩;have r:g+1<=g:=(World.ownsRow.lt H.row _ e).1;omega
 ·exact(Any.Builder_copyCheck_used {Ht with} xQ.toX72 g w c0).mono (by rintro e w' ⟨rfl,rfl⟩;exact⟨rfl,Y h,(Fd.refl _ _)⟩)
theorem ru:(prog.info? 5).map (λi=>(i.zero,i.size,i.bytes))=some (some (.int .u8 0),1,1):=by kernel_rfl
theorem DX.wrote{b new:Tx}(h:DX w g (some ⟨g,0,none⟩) bv n a m c b Z)(j:u.ownsRow (g+1) 5 1 v (b.length+new.length) (Lib.byteCells b++Lib.byteCells new))(d:w.grownBy u bv.ownBlock)(k:bv=Zs->new=[]->v=Zs):
 DX (u.setCell (g,1) v) g (some ⟨g,0,none⟩) v n a m c (b++new) Z/\Fd g w (u.setCell (g,1) v):=by
 have f:=Fd.grown d h.row (Nat.lt_succ_self g);have i:Bx u g _ _:=(d.block g h.bx.lt (λe=>by have o:g+1<=g:=(World.ownsRow.lt h.row _ e.symm).1;omega)).trans h.bx;have l:=i.set 1 v;refine⟨⟨by simpa using l,.inr rfl,?_,(h.sc.fr f h.bx).fr (Fd.set u 1 v) i,h.mc,λe=>by rw[List.append_eq_nil_iff] at e;exact k (h.nb e.1) e.2⟩,f.trans (Fd.set u 1 v)⟩;rw[OC,show Lib.byteCells (b++new)=Lib.byteCells b++Lib.byteCells new by simp[Lib.byteCells]];exact aB j (λe=>by have o:g+1<=g:=(World.ownsRow.lt j _ e).1;omega)
theorem JZ{j:Tx}(h:Dsk w g j n Z)(G:j.length+V.size<=100000000):
 Calls prog 8 #[(g,0),.string V] w λe w'=>(∃y,e=Zv y)/\Hid (Dsk w' g (j++tx V) n Z)/\Hid (Fd g w w'):=by
 have⟨I,bv,a,m,c,h⟩:=h;have H:=Y h;have⟨u,E,v,C,F⟩:=info_parts ru;clear h;go_enter func8,ntmps8;go_wp2_with (go_at_call 29;refine(yT H).mono ?_);rintro e L ⟨rfl,b,B⟩;have c1:=b.bx.cell 1;simp only[OB,OA,Oz] at c1;have t:=b.bx.lt;go_wp2_with (at_builtin;refine Lib.wpList_append_own_string _ rfl _ _ 26 9 rfl (g+1) 5 u Tryz.underlying26 Tryz.underlying9 E v C F _ _ _ rfl b.row V rfl ?c3 ?c4 ?c5 ?_);case c3=>unfold maxLen;omega
 case c4=>omega
 case c5=>omega
 intro D s d l o;have p:tx V=[]->V=ByteArray.empty:=λe=>by
  rcases V with ⟨⟨K⟩⟩;simp at e;subst e;rfl
 have hd:=Y (b.wrote (new:=tx V) (by rw[<-Lib.size_eq];exact d) l (λx A=>o.2 ⟨x,p A⟩));have k:Bx s g _ _:=(l.block g t (λe=>by have J:g+1<=g:=(World.ownsRow.lt b.row _ e.symm).1;omega)).trans b.bx;have z:=k.cell 1;simp only[OB,OA,Oz] at z;have M:=k.frozen;obtain⟨r,q,i,rfl⟩:∃r q i,D=.slice r q i:=by
  rcases d.2 with ⟨f,_⟩|⟨g,i,N,f,_⟩
  ·exact⟨_,_,_,f⟩
  ·exact⟨_,_,_,f⟩
 clear d l k c1 o p;go_wp2_with fail;go_ret2;exact⟨⟨_,rfl⟩,⟨_,_,a,m,c,hd.1⟩,(B.trans hd.2)⟩
theorem JY{o:Tx}(h:Dsk w g o n Z)(L:o.length<=100000000):
 Calls prog 11 #[(g,0),Za 10] w λe w'=>(∃A,e=Zv A)/\Hid (Dsk w' g (o++[10]) n Z)/\Hid (Fd g w w'):=by
 have⟨M,bv,a,m,c,h⟩:=h;have K:=Y h;have⟨y,I,z,D,J⟩:=info_parts ru;clear h;go_enter func11,ntmps11;go_wp2_with (go_at_call 29;refine(yT K).mono ?_);rintro e k ⟨rfl,b,C⟩;have c1:=b.bx.cell 1;simp only[OB,OA,Oz] at c1;have x:=b.bx.lt;go_wp2_with (at_builtin;refine UN _ rfl _ _ 26 rfl (g+1) 5 y (Za 0) 1 1 Tryz.underlying26 I z D J rfl (by decide) _ _ _ rfl (b.row.alloc _) ⟨k,0,none⟩ 1 1 [Za 10] rfl rfl ?c1 ?c2 ?c3 ?c4 ?c5 ?_);case c1=>
  intro H E f
  match H,f with
  |0,f=>simp at f;subst f;simp[Addr.add]
 case c2=>intro E s;simp at s;subst s;rfl
 case c3=>unfold maxLen;omega
 case c4=>omega
 case c5=>simp;omega
 intro F r i d _;have p:k.grownBy r bv.ownBlock:=⟨d.os,d.tape,d.output,by have:=d.size;simp at this;omega,λu G e=>(d.block u (by simp;omega) e).trans (pi k _ u G)⟩;have hd:=Y (b.wrote (new:=[10]) i p (λ_ e=>by cases e));have q:Bx r g _ _:=(p.block g x (λe=>by have N:g+1<=g:=(World.ownsRow.lt b.row _ e.symm).1;omega)).trans b.bx;have B:=q.cell 1;simp only[OB,OA,Oz] at B;have O:=q.frozen;obtain⟨v,t,l,rfl⟩:∃v t l,F=.slice v t l:=by
  rcases i.2 with ⟨j,_⟩|⟨g,l,P,j,_⟩
  ·exact⟨_,_,_,j⟩
  ·exact⟨_,_,_,j⟩
 clear i d q c1 p;go_wp2_with fail;go_ret;exact⟨⟨_,rfl⟩,⟨_,_,a,m,c,hd.1⟩,(C.trans hd.2)⟩
theorem vP:KeepsOthers u (u.freeze U k):=by
 unfold World.freeze;split
 ·exact KeepsOthers.refl u
 ·refine⟨by simp,λd o b hc=>?_⟩;simp only[TU];split
  ·rw[b];cases o<;>first|rfl|cases hc
  ·exact b
theorem Gs{d:Tx}(h:Dsk w g d n Z):
 Calls prog 12 #[(g,0)] w λs w'=>s=Zv (.string ⟨d.toArray⟩)/\Hid (Below g w w'/\KeepsOthers w w'):=by
 have⟨D,bv,a,m,c,h⟩:=h;have c1:=h.bx.cell 1;simp only[OB,OA,Oz] at c1;have B:prog.follows .mixedOrders=true:=by kernel_rfl
 by_cases h0:d=[]
 ·rw[h.nb h0] at c1;subst h0;have l:=Lib.run_unsafeSliceData_nil (P:=prog) w.drew #[26] 61 0 0;have A:=λx W=>Lib.run_unsafeString_none (P:=prog) W 61 3 9 x
  clear h;have H:Hid (Below g w w.drew/\KeepsOthers w w.drew):=Y ⟨Below.drew (ce g w),KeepsOthers.drew w⟩;go_enter func12,ntmps12;go_wp2;go_region_o;all_goals (go_wp2;go_ret;exact⟨rfl,H⟩)
 ·obtain⟨b,e,f,rfl,F,i,C,j,E,v⟩:∃b e f,bv=.slice (some ⟨b,0,none⟩) d.length e/\g+1<=b/\w.heap[b]?=some (.cells f 5 (0,0))/\d.length<=e/\e<=maxLen/\f.size=e*1/\f.toList.take (d.length*1)=Lib.byteCells d:=by
   rcases h.row.2 with ⟨_,k⟩|⟨g,e,f,o,r⟩
   ·exact absurd (kw k) h0
   ·exact⟨g,e,f,o,r⟩
  have l:(Builtin.unsafeSliceData_ #[26] 61 #[.slice (some ⟨b,0,none⟩) d.length e]).run prog w.drew=.ok (.pointer (some ⟨b,0,none⟩)) w.drew:=
   Lib.run_unsafeSliceData_row _ _ _ _ _ _ (by have:=TG.2 h0;omega)
  have A:(Builtin.unsafeString_ #[61,3] 9 #[.pointer (some ⟨b,0,none⟩),d.length]).run prog w.drew=.ok (.string ⟨d.toArray⟩) (w.drew.freeze ⟨b,0,none⟩ d.length):=by
   refine Lib.run_unsafeString_row w.drew 61 3 9 5 Tryz.underlying61 xQ.cellsByte b f.size (by have y:w.drew.heap[b]?=some (.cells f 5 (0,0)):=i;simp[World.shape?,y]) d h0 (by omega) (by unfold maxLen at j;omega) ?_;intro q z t;exact h.row.cells (g:=b) rfl q (Za z.toNat) (by simp[Lib.byteCells,t])
  have H:Hid (Below g w (w.drew.freeze ⟨b,0,none⟩ d.length)/\KeepsOthers w (w.drew.freeze ⟨b,0,none⟩ d.length)):=Y ⟨Lib.below_freeze (Below.drew (ce g w)) (p:=⟨b,0,none⟩) (by show g<=b;omega) _,(KeepsOthers.drew w).trans (vP (u:=w.drew))⟩;clear h v i;go_enter func12,ntmps12;go_wp2;go_region_o;all_goals (go_wp2;go_ret;exact⟨rfl,H⟩)
