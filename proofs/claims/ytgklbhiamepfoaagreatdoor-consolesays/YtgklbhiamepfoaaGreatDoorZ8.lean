import Derived.Test.YtgklbhiamepfoaaGreatDoorZ7
set_option maxHeartbeats 16000000
set_option maxRecDepth 100000
namespace Go.Proofs.YtgklbhiamepfoaaGreatDoor
open Go renaming World->W_,Value->V_,Calls->C_
open Go.Proofs.Tryz Mx
variable {w:W_}{n g:Nat}{a:Option Addr}{Z:List V_}{l:List B8}{x:Int}{X:List Nat}{W:List Pt}{v:V_}{L:List Int}
open Go.RowKit
theorem gQ(h:dt w none n g Z):n=0/\Z=[]:=by
 have⟨h1,_,a⟩:=h;have:n=0:=by
  rcases Tu n with h|h
  ·exact h
  ·have⟨c,d,b,_⟩:=a h
   cases b
 subst this;exact⟨rfl,kw (by simpa using h1)⟩
theorem iE(h:dt w a 0 n Z):Z=[]:=kw (by simpa using h.1)
theorem jO(c:Nat)(i:BL w a n l)(G:n<=1000000):
 C_ prog 199 #[(a,n,c)] w λr j=>∃v,r=Zv v/\ay j w v l/\OS w j:=by
 have L:∀(w:W_) (a:Option Addr) (n c d e:Nat),(binOp .eql 76 (a,n,c) (.slice none d e)).run prog w=.ok (Zl a.isNone) w:=λw a n c d e=>Lib.run_eql_slice_nil w _ _ a n c d e Tryz.underlying76
 have b:=Y i;clear i;cases a with
 |none=>
  obtain⟨rfl,D⟩:=gQ b.2;have o:Hid (l=[]):=kw b.1;clear D;go_enter func199,ntmps199;go_wp2;go_ret;refine⟨_,rfl,?_,ce _ _⟩;rw[o];exact t8 w _ 65 8
 |some z=>
  go_enter func199,ntmps199;have⟨p,E,q,t,F⟩:=info_parts Tryz.info65;go_wp2_with (at_builtin;refine UN _ rfl _ _ 76 rfl w 65 p _ 8 8 Tryz.underlying76 E q t F rfl (by decide) _ _ _ rfl (TL w #[] 0 (OJ _) (ol _) (by simp)) z n c (bp l) rfl ?qc1 ?qc2 ?qc3 ?qc4 ?qc5 ?qc6 ?_);case qc1=>exact b.2.1
  case qc2=>
   intro B u f;rcases Tu n with h|h
   ·subst h;rw[iE b.2] at f;simp at f
   ·have⟨J,M,s,I,hc⟩:=b.2.2.2 h
    cases s
    rw[GT];exact Lib.cell?_alloc_some _ (hc B u f)
  case qc3=>exact kQ
  case qc4=>unfold maxLen;omega
  case qc5=>omega
  case qc6=>simp
  intro x H g k m;have C:=Y g;have y:=Y k;clear g k m;go_wp2;go_ret;refine⟨x,rfl,?_,?_⟩
  ·have:=C.o;unfold ay;rw[b.1];simpa using this
  ·exact((ce _ w).alloc (OJ _) _).grown y (by simp) (by intro K A;simp[Value.ownBlock] at A;omega)
theorem mo(c:Nat)(i:PL w a n W)(F:n<=1000000):
 C_ prog 176 #[(a,n,c)] w λq j=>∃v,q=Zv v/\bt j w v W/\OS w j:=by
 have K:∀(w:W_) (a:Option Addr) (n c d e:Nat),(binOp .eql 106 (a,n,c) (.slice none d e)).run prog w=.ok (Zl a.isNone) w:=λw a n c d e=>Lib.run_eql_slice_nil w _ _ a n c d e Tryz.underlying106
 have b:=Y i;clear i;cases a with
 |none=>
  obtain⟨rfl,C⟩:=gQ b.2;have m:Hid (W=[]):=kw b.1;clear C;go_enter func176,ntmps176;go_wp2;go_ret;refine⟨_,rfl,?_,ce _ _⟩;rw[m];exact t8 w _ 123 9
 |some y=>
  go_enter func176,ntmps176;have⟨o,D,p,s,E⟩:=info_parts Tryz.info123;go_wp2_with (at_builtin;refine UN _ rfl _ _ 106 rfl w 123 o _ 9 16 Tryz.underlying106 D p s E rfl (by decide) _ _ _ rfl (TL w #[] 0 (OJ _) (ol _) (by simp)) y n c (ig W) rfl ?qc1 ?qc2 ?qc3 ?qc4 ?qc5 ?qc6 ?_);case qc1=>exact b.2.1
  case qc2=>
   intro A u f;rcases Tu n with h|h
   ·subst h;rw[iE b.2] at f;simp at f
   ·have⟨I,L,r,H,hc⟩:=b.2.2.2 h
    cases r
    rw[GT];exact Lib.cell?_alloc_some _ (hc A u f)
  case qc3=>exact ts
  case qc4=>unfold maxLen;omega
  case qc5=>omega
  case qc6=>simp
  intro t G g k l;have B:=Y g;have x:=Y k;clear g k l;go_wp2;go_ret;refine⟨t,rfl,?_,?_⟩
  ·have:=B.o;unfold bt;rw[b.1];simpa using this
  ·exact((ce _ w).alloc (OJ _) _).grown x (by simp) (by intro J z;simp[Value.ownBlock] at z;omega)
theorem uA(i:BL w a n l)(E:n<=1000000):
 C_ prog 68 #[(a,n,g)] w λx d=>∃v,x=Zv v/\ay d w v l/\OS w d:=by
 have b:=Y i;have⟨o,y,p,e,A⟩:=info_parts Tryz.info65;cases a with
 |none=>
  obtain⟨rfl,G⟩:=gQ b.2;have m:Hid (l=[]):=kw b.1;go_enter func68,ntmps68;go_wp2;go_ret;refine⟨_,rfl,?_,af⟩;rw[m];exact TL w #[] 0 (OJ _) (ol _) (by simp)
 |some r=>
  go_enter func68,ntmps68;go_wp2_with (at_builtin;refine UN _ rfl _ _ 76 rfl w 65 o _ 8 8 Tryz.underlying76 y p e A rfl (by decide) _ _ _ rfl (TL w #[] 0 (OJ _) (ol _) (by simp)) r n g (bp l) rfl ?qc1 ?qc2 ?qc3 ?qc4 ?qc5 ?qc6 ?_);case qc1=>exact b.2.1
  case qc2=>
   intro s u c;rcases Tu n with h|h
   ·subst h;rw[iE b.2] at c;simp at c
   ·have⟨F,J,z,D,hc⟩:=b.2.2.2 h
    cases z
    rw[GT];exact Lib.cell?_alloc_some _ (hc s u c)
  case qc3=>exact kQ
  case qc4=>unfold maxLen;omega
  case qc5=>omega
  case qc6=>simp
  intro j I f B C;have t:=Y f;have k:=Y B;go_wp2;go_ret;refine⟨j,rfl,?_,?_⟩
  ·have:=t.o;unfold ay;rw[b.1];simpa using this
  ·exact((ce _ w).alloc (OJ _) _).grown k (by simp) (by intro H q;simp[Value.ownBlock] at q;omega)
def Mx.less(left:Int):Int:=if left<0 then left else left-1
theorem pj(h1:-9223372036854775808<=x)(h2:x<=9223372036854775807):
 C_ prog 232 #[x] w λe b=>e=Zv (Zb (less x))/\b=w:=by
 by_cases h:x<0
 ·have a:=Y (show less x=x by unfold less;rw[UY h]);go_enter func232,ntmps232;go_wp2;go_ret;exact⟨by rw[a];rfl,rfl⟩
 ·have a:=Y (show less x=x-1 by unfold less;rw[UX h]);go_enter func232,ntmps232;go_wp2;go_ret;exact⟨by rw[a];rfl,rfl⟩
def Mx.kept(x:Int):Int:=(if x<0 then -(x+1) else x)%9
theorem Mx.zp(x:Int):0<=kept x/\kept x<=8:=by unfold kept;split<;>omega
theorem Hs(h1:-9223372036854775808<=x)(h2:x<=9223372036854775807):
 C_ prog 200 #[x] w λe b=>e=Zv (Zb (kept x))/\b=w:=by
 by_cases h:x<0
 ·have a:=Y (show kept x=-((x+1).tmod 9) by unfold kept;rw[UY h,<-Int.neg_tmod,TZ (by omega)]);go_enter func200,ntmps200;go_wp2;go_ret;exact⟨by rw[a];rfl,rfl⟩
 ·have a:=Y (show kept x=x%9 by unfold kept;rw[UX h]);go_enter func200,ntmps200;go_wp2;go_ret;exact⟨by rw[a];rfl,rfl⟩
theorem az{α:Type}(l:List α)(x:α)(h:l[n]?=x):l.take (n+1)=l.take n++[x]:=by
 rw[up,h];rfl
theorem B8.eq_list(x y:B8):[x.z0,x.z1,x.z2,x.z3,x.z4,x.z5,x.z6,x.z7]=[y.z0,y.z1,y.z2,y.z3,y.z4,y.z5,y.z6,y.z7]↔x=y:=by
 constructor
 ·intro h;simp only[List.cons.injEq,US] at h;cases x
  cases y
  simp_all
 ·rintro rfl;rfl
theorem CJ(x:Nat):
 (be8 x)[0]?=some ((x/72057594037927936%256:Nat):Int)/\(be8 x)[1]?=some ((x/281474976710656%256:Nat):Int)/\(be8 x)[2]?=some ((x/1099511627776%256:Nat):Int)/\(be8 x)[3]?=some ((x/4294967296%256:Nat):Int)/\
 (be8 x)[4]?=some ((x/16777216%256:Nat):Int)/\(be8 x)[5]?=some ((x/65536%256:Nat):Int)/\(be8 x)[6]?=some ((x/256%256:Nat):Int)/\(be8 x)[7]?=some ((x%256:Nat):Int):=by
 refine⟨?_,?_,?_,?_,?_,?_,?_,?_⟩<;>simp[be8]
theorem jG(U:Nat)(F:dF w a n X)(hn:n<=4):
 C_ prog 131 #[(a,n,U)] w λJ b=>J=Zv (.int .u64 (dp X:Int))/\OS w b:=by
 have W:=Y F;have P:=Y F.1;clear F;go_enter func131,ntmps131;go_wp2;go_loopw [3,10] (λI G wr=>∃k:Nat,k<=n/\G=Zb k/\Hid (Own wr w I (1::(X.take k).flatMap be8))/\Hid (OS w wr)) (λ_ G _=>n-(intOf G).toNat)
 case atStart=>
  refine⟨0,by omega,rfl,?_,af⟩;exact TS (base:=w) (e:=5) (size:=1) w #[Za 1] 1 (by simp) (by unfold maxLen;omega) rfl
 case round=>
  obtain⟨k,hk,rfl,O,H⟩:=hrel;by_cases V:k<n
  ·obtain⟨aj,al,x,rfl,hb,R,ak,Z⟩:=(W.later H).at_ k V;have S:=Y R;clear R;go_wp2;clear Z;go_loopw [3,6] (λI M wr=>∃(j:Nat) (o:Int),j<=8/\M=Zb o/\o=56-8*(j:Int)/\Hid (Own wr w I (1::(X.take k).flatMap be8++(be8 x).take j))/\Hid (OS w wr)) (λ_ M _=>(intOf M+8).toNat)
   case atStart=>exact⟨0,56,by omega,rfl,by omega,by simpa using O,H⟩
   case round=>
    obtain⟨j,o,hj,rfl,hs,C,q⟩:=hrel;have E:=q.size;have D:=Y (show(1::(X.take k).flatMap be8++(be8 x).take j).length+1<=1000000 by
     rw[OC,fd,Mx.mC,OM,OM,lK];have:=P.o;omega)
    have⟨p,B,v,s,u,r,A,t⟩:=CJ x;have⟨L,y⟩:=ZX (1::(X.take k).flatMap be8++(be8 x).take j);rw[<-y] at C D;by_cases ae:j<8
    ·have h8:j=0\/j=1\/j=2\/j=3\/j=4\/j=5\/j=6\/j=7:=by omega
     rcases h8 with rfl|rfl|rfl|rfl|rfl|rfl|rfl|rfl
     ·obtain rfl:o=56:=by omega
      have l:Hid (∀(z:Int) (b:W_) (c:V_),z=((x/72057594037927936%256:Nat):Int)->Own b w c (L++[z])->Own b w c (1::(X.take k).flatMap be8++(be8 x).take (0+1))):=λz b c g h=>by
       rw[az _ _ p,<-g,<-eq,<-y];exact h
      clear hs p B v s u r A t;go_wp2_with (at_builtin;refine aE rfl rfl (g:=w) (l:=L) (C.alloc _) (Q:=⟨wr,0,none⟩) (m:=1) 1 (L:=[_]) rfl rfl (cf rfl) D ?c3 ?_);case c3=>simp;omega
      intro c b e d;have f:=Y (l _ b c (by omega) e);have i:=Y (q.trans (((ce _ _).alloc E _).trans d));clear e d;go_wp2;go_roundw
      case rel=>exact⟨0+1,_,by omega,rfl,by omega,f,i⟩
      case measure=>simp[intOf]
     ·obtain rfl:o=48:=by omega
      have l:Hid (∀(z:Int) (b:W_) (c:V_),z=((x/281474976710656%256:Nat):Int)->Own b w c (L++[z])->Own b w c (1::(X.take k).flatMap be8++(be8 x).take (1+1))):=λz b c g h=>by
       rw[az _ _ B,<-g,<-eq,<-y];exact h
      clear hs p B v s u r A t;go_wp2_with (at_builtin;refine aE rfl rfl (g:=w) (l:=L) (C.alloc _) (Q:=⟨wr,0,none⟩) (m:=1) 1 (L:=[_]) rfl rfl (cf rfl) D ?c3 ?_);case c3=>simp;omega
      intro c b e d;have f:=Y (l _ b c (by omega) e);have i:=Y (q.trans (((ce _ _).alloc E _).trans d));clear e d;go_wp2;go_roundw
      case rel=>exact⟨1+1,_,by omega,rfl,by omega,f,i⟩
      case measure=>simp[intOf]
     ·obtain rfl:o=40:=by omega
      have l:Hid (∀(z:Int) (b:W_) (c:V_),z=((x/1099511627776%256:Nat):Int)->Own b w c (L++[z])->Own b w c (1::(X.take k).flatMap be8++(be8 x).take (2+1))):=λz b c g h=>by
       rw[az _ _ v,<-g,<-eq,<-y];exact h
      clear hs p B v s u r A t;go_wp2_with (at_builtin;refine aE rfl rfl (g:=w) (l:=L) (C.alloc _) (Q:=⟨wr,0,none⟩) (m:=1) 1 (L:=[_]) rfl rfl (cf rfl) D ?c3 ?_);case c3=>simp;omega
      intro c b e d;have f:=Y (l _ b c (by omega) e);have i:=Y (q.trans (((ce _ _).alloc E _).trans d));clear e d;go_wp2;go_roundw
      case rel=>exact⟨2+1,_,by omega,rfl,by omega,f,i⟩
      case measure=>simp[intOf]
     ·obtain rfl:o=32:=by omega
      have l:Hid (∀(z:Int) (b:W_) (c:V_),z=((x/4294967296%256:Nat):Int)->Own b w c (L++[z])->Own b w c (1::(X.take k).flatMap be8++(be8 x).take (3+1))):=λz b c g h=>by
       rw[az _ _ s,<-g,<-eq,<-y];exact h
      clear hs p B v s u r A t;go_wp2_with (at_builtin;refine aE rfl rfl (g:=w) (l:=L) (C.alloc _) (Q:=⟨wr,0,none⟩) (m:=1) 1 (L:=[_]) rfl rfl (cf rfl) D ?c3 ?_);case c3=>simp;omega
      intro c b e d;have f:=Y (l _ b c (by omega) e);have i:=Y (q.trans (((ce _ _).alloc E _).trans d));clear e d;go_wp2;go_roundw
      case rel=>exact⟨3+1,_,by omega,rfl,by omega,f,i⟩
      case measure=>simp[intOf]
     ·obtain rfl:o=24:=by omega
      have l:Hid (∀(z:Int) (b:W_) (c:V_),z=((x/16777216%256:Nat):Int)->Own b w c (L++[z])->Own b w c (1::(X.take k).flatMap be8++(be8 x).take (4+1))):=λz b c g h=>by
       rw[az _ _ u,<-g,<-eq,<-y];exact h
      clear hs p B v s u r A t;go_wp2_with (at_builtin;refine aE rfl rfl (g:=w) (l:=L) (C.alloc _) (Q:=⟨wr,0,none⟩) (m:=1) 1 (L:=[_]) rfl rfl (cf rfl) D ?c3 ?_);case c3=>simp;omega
      intro c b e d;have f:=Y (l _ b c (by omega) e);have i:=Y (q.trans (((ce _ _).alloc E _).trans d));clear e d;go_wp2;go_roundw
      case rel=>exact⟨4+1,_,by omega,rfl,by omega,f,i⟩
      case measure=>simp[intOf]
     ·obtain rfl:o=16:=by omega
      have l:Hid (∀(z:Int) (b:W_) (c:V_),z=((x/65536%256:Nat):Int)->Own b w c (L++[z])->Own b w c (1::(X.take k).flatMap be8++(be8 x).take (5+1))):=λz b c g h=>by
       rw[az _ _ r,<-g,<-eq,<-y];exact h
      clear hs p B v s u r A t;go_wp2_with (at_builtin;refine aE rfl rfl (g:=w) (l:=L) (C.alloc _) (Q:=⟨wr,0,none⟩) (m:=1) 1 (L:=[_]) rfl rfl (cf rfl) D ?c3 ?_);case c3=>simp;omega
      intro c b e d;have f:=Y (l _ b c (by omega) e);have i:=Y (q.trans (((ce _ _).alloc E _).trans d));clear e d;go_wp2;go_roundw
      case rel=>exact⟨5+1,_,by omega,rfl,by omega,f,i⟩
      case measure=>simp[intOf]
     ·obtain rfl:o=8:=by omega
      have l:Hid (∀(z:Int) (b:W_) (c:V_),z=((x/256%256:Nat):Int)->Own b w c (L++[z])->Own b w c (1::(X.take k).flatMap be8++(be8 x).take (6+1))):=λz b c g h=>by
       rw[az _ _ A,<-g,<-eq,<-y];exact h
      clear hs p B v s u r A t;go_wp2_with (at_builtin;refine aE rfl rfl (g:=w) (l:=L) (C.alloc _) (Q:=⟨wr,0,none⟩) (m:=1) 1 (L:=[_]) rfl rfl (cf rfl) D ?c3 ?_);case c3=>simp;omega
      intro c b e d;have f:=Y (l _ b c (by omega) e);have i:=Y (q.trans (((ce _ _).alloc E _).trans d));clear e d;go_wp2;go_roundw
      case rel=>exact⟨6+1,_,by omega,rfl,by omega,f,i⟩
      case measure=>simp[intOf]
     ·obtain rfl:o=0:=by omega
      have l:Hid (∀(z:Int) (b:W_) (c:V_),z=((x%256:Nat):Int)->Own b w c (L++[z])->Own b w c (1::(X.take k).flatMap be8++(be8 x).take (7+1))):=λz b c g h=>by
       rw[az _ _ t,<-g,<-eq,<-y];exact h
      clear hs p B v s u r A t;go_wp2_with (at_builtin;refine aE rfl rfl (g:=w) (l:=L) (C.alloc _) (Q:=⟨wr,0,none⟩) (m:=1) 1 (L:=[_]) rfl rfl (cf rfl) D ?c3 ?_);case c3=>simp;omega
      intro c b e d;have f:=Y (l _ b c (by omega) e);have i:=Y (q.trans (((ce _ _).alloc E _).trans d));clear e d;go_wp2;go_roundw
      case rel=>exact⟨7+1,_,by omega,rfl,by omega,f,i⟩
      case measure=>simp[intOf]
    ·obtain rfl:j=8:=by omega
     obtain rfl:o=-8:=by omega
     have f:=Y (show Own wr w _ (1::(X.take (k+1)).flatMap be8) by
      have h:=C.o;rw[y,OL (l:=be8 x) (by rw[lK];omega)] at h;rw[az _ _ S,wt,Id,List.flatMap_nil,m7];exact h)
     clear hs p B v s u r A t;go_wp2;go_roundw
     case rel=>exact⟨k+1,by omega,by go_num,f,q⟩
     case measure=>simp[intOf];omega
  ·have f:=Y (show Own wr w _ (1::X.flatMap be8) by
    have h:=O.o;rw[OL (by rw[P];omega)] at h;exact h)
   have⟨ai,ah,N,_,_⟩:=kV f (by simp);have⟨ad,T⟩:=ZX ((1::X.flatMap be8).length);have⟨ag,K⟩:=ZX (1::X.flatMap be8);rw[<-T] at N;subst N;rw[<-K] at f;have ab:=Y (kU f (by
    rw[K];intro z g;rcases ro.1 g with h|h
    ·omega
    ·exact tt X z h))
   go_wp2_with fail;refine(qV ab).mono ?_;rintro J w2 ⟨rfl,rfl⟩;go_wp2;go_ret;refine⟨?_,H⟩;unfold dp;rw[<-K];rfl
def Mx.ij(l:List Nat)(t:Nat):List Nat:=(List.range t).map λi=>dp ((l.drop (i*4)).take 4)
theorem Mx.Bl(l:List Nat)(t:Nat):ij l (t+1)=ij l t++[dp ((l.drop (t*4)).take 4)]:=by unfold ij;rw[Ui,le];rfl
theorem Mx.ED(l:List Nat)(t:Nat)(h1:l.length<=t*4)(h2:t*4<l.length+4):ij l t=cw l:=by
 unfold ij cw;rw[show(l.length+3)/4=t by omega]
theorem Mx.EE(l:List Nat)(t:Nat):(ij l t).length=t:=by simp[ij]
def Mx.Dj(j D:Nat):Prop:=(j=0/\D=72057594037927936)\/(j=1/\D=281474976710656)\/(j=2/\D=1099511627776)\/(j=3/\D=4294967296)\/(j=4/\D=16777216)\/(j=5/\D=65536)\/(j=6/\D=256)\/(j=7/\D=1)\/(j=8/\D=0)
theorem Own.row(h:Own w n v L)(d:L≠[])(c:∀x∈L,0<=x/\x<=255):∃g N a,v=.slice (some ⟨g,0,none⟩) N a/\Hid (Bytes w (some ⟨g,0,none⟩) N L):=by
 have⟨g,a,b,_,_⟩:=kV h d;subst b;exact⟨g,_,a,rfl,kU h c⟩
theorem Cw(hl:dF w a n X)(hn:n<=1000):
 C_ prog 65 #[(a,n,g)] w λR b=>∃c,R=Zv c/\Hid (cq b w c (cw X))/\Hid (OS w b):=by
 have HL:=Y hl;have W:=Y hl.1;clear hl;go_enter func65,ntmps65;go_wp2;go_loopw [3,4] (λS J wr=>∃(t I:Nat),Hid (I=t*4)/\I<=n+3/\J=Zb (I:Int)/\Hid (cq wr w S (ij X t))/\Hid (OS w wr)) (λ_ J _=>n+4-(intOf J).toNat)
 case atStart=>exact⟨0,0,rfl,by omega,rfl,cq.nil _ _,ce _ _⟩
 case round=>
  obtain⟨t,I,O,aI,rfl,hO,M⟩:=hrel;obtain⟨d,rfl⟩:∃d,d=wr:=⟨wr,rfl⟩;by_cases aG:(I:Int)<n
  ·go_wp2;go_loopw [5,6] (λS J T=>∃(q K:Nat),Hid (K=I+q)/\I<=K/\K<=n/\K<=I+4/\J=Zb (K:Int)/\Hid (Own T d S (1::((X.drop I).take q).flatMap be8))/\Hid (OS d T)) (λ_ J _=>n-(intOf J).toNat)
   case atStart=>
    refine⟨0,I,rfl,by omega,by omega,by omega,rfl,?_,af⟩;exact TS (base:=d) (e:=5) (size:=1) d #[Za 1] 1 (by simp) (by unfold maxLen;omega) rfl
   case round=>
    obtain⟨q,K,hK,aF,aC,aD,rfl,hB,V⟩:=hrel;obtain⟨P,rfl⟩:∃P,P=wr:=⟨wr,rfl⟩;by_cases hc:(K:Int)<(I:Int)+4/\(K:Int)<n
    ·have⟨am,aH⟩:=hc;have ak:decide ((K:Int)<(I:Int)+4)=true:=by simpa using am
     have ap:=Y (M.o.trans (V.o.mono M.o.size));have⟨ax,aA,ai,ae,_,hx,ay,_⟩:=(HL.o.later ap.o).at_ K (by omega);subst ae;have HX:=Y hx;clear hx;go_wp2;go_loopw [5,7] (λS ad T=>∃(Z ab:Nat),Hid (Dj Z ab)/\ad=.int .u64 (ab:Int)/\Hid (Own T d S (1::((X.drop I).take q).flatMap be8++(be8 ai).take Z))/\Hid (OS d T)) (λ_ ad _=>(intOf ad).toNat)
     case atStart=>exact⟨0,72057594037927936,.inl ⟨rfl,rfl⟩,rfl,by simpa using hB,V⟩
     case round=>
      obtain⟨Z,ab,x,rfl,E,r⟩:=hrel;have ao:=Y (M.o.trans (r.o.mono M.o.size));have H:=r.o.size;have⟨b',aJ,i,ae,hbl,ag,_,F⟩:=(HL.o.later ao.o).at_ K (by omega);cases ae
      obtain rfl:i=ai:=by rw[HX.o] at ag;exact(OG ag).symm
      clear ag;have⟨A,D,C,B,v,s,y,u⟩:=CJ i;have⟨L,p⟩:=ZX (1::((X.drop I).take q).flatMap be8++(be8 i).take Z);have G:=Y (show L.length+1<=1000000 by
       rw[p.o,OC,fd,Mx.mC,OM,OM,lK,ge];have:=W.o;omega)
      rw[<-p.o] at E;rcases x.o with ⟨rfl,rfl⟩|⟨rfl,rfl⟩|⟨rfl,rfl⟩|⟨rfl,rfl⟩|⟨rfl,rfl⟩|⟨rfl,rfl⟩|⟨rfl,rfl⟩|⟨rfl,rfl⟩|⟨rfl,rfl⟩
      ·have o:=Y (show ∀(z:Int) (b:W_) (c:V_),z=((i/72057594037927936%256:Nat):Int)->Own b d c (L++[z])->Own b d c (1::((X.drop I).take q).flatMap be8++(be8 i).take (0+1)) from λz b c k h=>by
        rw[az _ _ A,<-k,<-eq,<-p.o];exact h)
       clear x A D C B v s y u;go_wp2_with (at_builtin;refine aE rfl rfl (g:=d) (l:=L) (E.o.alloc _) (Q:=⟨wr,0,none⟩) (m:=1) 1 (L:=[_]) rfl rfl (cf rfl) G.o ?c3 ?_);case c3=>simp;omega
       intro c b e f;have j:=Y (o.o _ b c (by omega) e);have l:=Y (r.o.trans (((ce _ _).alloc H _).trans f));clear e f F;go_wp2;go_roundw
       case rel=>exact⟨0+1,281474976710656,.inr (.inl ⟨rfl,rfl⟩),rfl,j,l⟩
       case measure=>simp[intOf]
      ·have o:=Y (show ∀(z:Int) (b:W_) (c:V_),z=((i/281474976710656%256:Nat):Int)->Own b d c (L++[z])->Own b d c (1::((X.drop I).take q).flatMap be8++(be8 i).take (1+1)) from λz b c k h=>by
        rw[az _ _ D,<-k,<-eq,<-p.o];exact h)
       clear x A D C B v s y u;go_wp2_with (at_builtin;refine aE rfl rfl (g:=d) (l:=L) (E.o.alloc _) (Q:=⟨wr,0,none⟩) (m:=1) 1 (L:=[_]) rfl rfl (cf rfl) G.o ?c3 ?_);case c3=>simp;omega
       intro c b e f;have j:=Y (o.o _ b c (by omega) e);have l:=Y (r.o.trans (((ce _ _).alloc H _).trans f));clear e f F;go_wp2;go_roundw
       case rel=>exact⟨1+1,1099511627776,.inr (.inr (.inl ⟨rfl,rfl⟩)),rfl,j,l⟩
       case measure=>simp[intOf]
      ·have o:=Y (show ∀(z:Int) (b:W_) (c:V_),z=((i/1099511627776%256:Nat):Int)->Own b d c (L++[z])->Own b d c (1::((X.drop I).take q).flatMap be8++(be8 i).take (2+1)) from λz b c k h=>by
        rw[az _ _ C,<-k,<-eq,<-p.o];exact h)
       clear x A D C B v s y u;go_wp2_with (at_builtin;refine aE rfl rfl (g:=d) (l:=L) (E.o.alloc _) (Q:=⟨wr,0,none⟩) (m:=1) 1 (L:=[_]) rfl rfl (cf rfl) G.o ?c3 ?_);case c3=>simp;omega
       intro c b e f;have j:=Y (o.o _ b c (by omega) e);have l:=Y (r.o.trans (((ce _ _).alloc H _).trans f));clear e f F;go_wp2;go_roundw
       case rel=>exact⟨2+1,4294967296,.inr (.inr (.inr (.inl ⟨rfl,rfl⟩))),rfl,j,l⟩
       case measure=>simp[intOf]
      ·have o:=Y (show ∀(z:Int) (b:W_) (c:V_),z=((i/4294967296%256:Nat):Int)->Own b d c (L++[z])->Own b d c (1::((X.drop I).take q).flatMap be8++(be8 i).take (3+1)) from λz b c k h=>by
        rw[az _ _ B,<-k,<-eq,<-p.o];exact h)
       clear x A D C B v s y u;go_wp2_with (at_builtin;refine aE rfl rfl (g:=d) (l:=L) (E.o.alloc _) (Q:=⟨wr,0,none⟩) (m:=1) 1 (L:=[_]) rfl rfl (cf rfl) G.o ?c3 ?_);case c3=>simp;omega
       intro c b e f;have j:=Y (o.o _ b c (by omega) e);have l:=Y (r.o.trans (((ce _ _).alloc H _).trans f));clear e f F;go_wp2;go_roundw
       case rel=>exact⟨3+1,16777216,.inr (.inr (.inr (.inr (.inl ⟨rfl,rfl⟩)))),rfl,j,l⟩
       case measure=>simp[intOf]
      ·have o:=Y (show ∀(z:Int) (b:W_) (c:V_),z=((i/16777216%256:Nat):Int)->Own b d c (L++[z])->Own b d c (1::((X.drop I).take q).flatMap be8++(be8 i).take (4+1)) from λz b c k h=>by
        rw[az _ _ v,<-k,<-eq,<-p.o];exact h)
       clear x A D C B v s y u;go_wp2_with (at_builtin;refine aE rfl rfl (g:=d) (l:=L) (E.o.alloc _) (Q:=⟨wr,0,none⟩) (m:=1) 1 (L:=[_]) rfl rfl (cf rfl) G.o ?c3 ?_);case c3=>simp;omega
       intro c b e f;have j:=Y (o.o _ b c (by omega) e);have l:=Y (r.o.trans (((ce _ _).alloc H _).trans f));clear e f F;go_wp2;go_roundw
       case rel=>exact⟨4+1,65536,.inr (.inr (.inr (.inr (.inr (.inl ⟨rfl,rfl⟩))))),rfl,j,l⟩
       case measure=>simp[intOf]
      ·have o:=Y (show ∀(z:Int) (b:W_) (c:V_),z=((i/65536%256:Nat):Int)->Own b d c (L++[z])->Own b d c (1::((X.drop I).take q).flatMap be8++(be8 i).take (5+1)) from λz b c k h=>by
        rw[az _ _ s,<-k,<-eq,<-p.o];exact h)
       clear x A D C B v s y u;go_wp2_with (at_builtin;refine aE rfl rfl (g:=d) (l:=L) (E.o.alloc _) (Q:=⟨wr,0,none⟩) (m:=1) 1 (L:=[_]) rfl rfl (cf rfl) G.o ?c3 ?_);case c3=>simp;omega
       intro c b e f;have j:=Y (o.o _ b c (by omega) e);have l:=Y (r.o.trans (((ce _ _).alloc H _).trans f));clear e f F;go_wp2;go_roundw
       case rel=>exact⟨5+1,256,.inr (.inr (.inr (.inr (.inr (.inr (.inl ⟨rfl,rfl⟩)))))),rfl,j,l⟩
       case measure=>simp[intOf]
      ·have o:=Y (show ∀(z:Int) (b:W_) (c:V_),z=((i/256%256:Nat):Int)->Own b d c (L++[z])->Own b d c (1::((X.drop I).take q).flatMap be8++(be8 i).take (6+1)) from λz b c k h=>by
        rw[az _ _ y,<-k,<-eq,<-p.o];exact h)
       clear x A D C B v s y u;go_wp2_with (at_builtin;refine aE rfl rfl (g:=d) (l:=L) (E.o.alloc _) (Q:=⟨wr,0,none⟩) (m:=1) 1 (L:=[_]) rfl rfl (cf rfl) G.o ?c3 ?_);case c3=>simp;omega
       intro c b e f;have j:=Y (o.o _ b c (by omega) e);have l:=Y (r.o.trans (((ce _ _).alloc H _).trans f));clear e f F;go_wp2;go_roundw
       case rel=>exact⟨6+1,1,.inr (.inr (.inr (.inr (.inr (.inr (.inr (.inl ⟨rfl,rfl⟩))))))),rfl,j,l⟩
       case measure=>simp[intOf]
      ·have o:=Y (show ∀(z:Int) (b:W_) (c:V_),z=((i%256:Nat):Int)->Own b d c (L++[z])->Own b d c (1::((X.drop I).take q).flatMap be8++(be8 i).take (7+1)) from λz b c k h=>by
        rw[az _ _ u,<-k,<-eq,<-p.o];exact h)
       clear x A D C B v s y u;go_wp2_with (at_builtin;refine aE rfl rfl (g:=d) (l:=L) (E.o.alloc _) (Q:=⟨wr,0,none⟩) (m:=1) 1 (L:=[_]) rfl rfl (cf rfl) G.o ?c3 ?_);case c3=>simp;omega
       intro c b e f;have j:=Y (o.o _ b c (by omega) e);have l:=Y (r.o.trans (((ce _ _).alloc H _).trans f));clear e f F;go_wp2;go_roundw
       case rel=>exact⟨7+1,0,.inr (.inr (.inr (.inr (.inr (.inr (.inr (.inr (⟨rfl,rfl⟩)))))))),rfl,j,l⟩
       case measure=>simp[intOf]
      ·have j:=Y (show Own wr d _ (1::((X.drop I).take (q+1)).flatMap be8) by
        have h:=E.o;have hq:(X.drop I)[q]?=i:=by rw[Tt,<-hK.out];exact HX.o
        rw[p.o,OL (l:=be8 i) (by rw[lK];omega)] at h;rw[az _ _ hq,wt,Id,List.flatMap_nil,m7];exact h)
       clear x A D C B v s y u F;go_wp2;go_roundw
       case rel=>exact⟨q+1,K+1,by have:=hK.out;unfold Hid;omega,by omega,by omega,by omega,by go_num,j,r⟩
       case measure=>simp[intOf];omega
    ·have HM:=Y (show Own P d _ (1::((X.drop (t*4)).take 4).flatMap be8) by
      have h:=hB.o;have R:(X.drop I).take q=(X.drop (t*4)).take 4:=by
       have h1:=hK.out;have h2:=W.o;rw[<-O.o];rcases(show q=4\/X.length<=I+q/\q<=4 by omega) with rfl|⟨h3,h4⟩
       ·rfl
       ·rw[OL (by rw[ge];omega),OL (by rw[ge];omega)]
      rw[R] at h;exact h)
     have⟨aw,aB,av,hv,al⟩:=Own.row HM.o (by simp) (by
      intro z k;rcases ro.1 k with h|h
      ·omega
      ·exact tt _ z h)
     subst hv;have⟨aq,hM⟩:=ZX (1::((X.drop (t*4)).take 4).flatMap be8);rw[<-hM.o] at al;have hd:decide ((K:Int)<(I:Int)+4)=false\/(decide ((K:Int)<(I:Int)+4)=true/\¬(K:Int)<n):=by
      by_cases h:(K:Int)<(I:Int)+4
      ·exact .inr ⟨by simpa using h,λh2=>hc ⟨h,h2⟩⟩
      ·exact .inl (by simpa using h)
     clear hc HM hB;have HR:Hid (∀N,cq (P.drewN N) w _ (ij X t)):=λN=>aW hO.o (below_drewN V.o N);have ah:Hid (∀N,OS w (P.drewN N)):=λN=>below_drewN (M.o.trans (V.o.mono M.o.size)) N;rcases hd with ak|⟨ak,au⟩
     all_goals
      go_wp2_with fail;refine(nP al.o).mono ?_;rintro R w2 ⟨rfl,U,rfl⟩;have⟨an,hZ⟩:=ZX (fX aq);rw[<-hZ.o];go_wp2_with (at_builtin;refine jM rfl rfl w (ij X t) ?c0 an ?c1 ?c2 ?c3 ?_);case c0=>exact HR.o U
      case c1=>rfl
      case c2=>rw[EE];have:=O.o;omega
      case c3=>exact(ah.o U).size
      intro c b e aj;have j:=Y (show cq b w c (ij X (t+1)) by
       rw[Bl,dp,<-hM.o,<-hZ.o];exact e)
      have l:=Y ((ah.o U).grown aj (ah.o U).size (λar hk=>(World.ownsRow.lt (HR.o U) ar hk).1));clear e aj;go_wp2;go_roundw
      case rel=>exact⟨t+1,I+4,by have:=O.o;unfold Hid;omega,by omega,by go_num,j,l⟩
      case measure=>simp[intOf];omega
  ·have HE:Hid (ij X t=cw X):=ED X t (by have:=O.o;have:=W.o;omega) (by have:=O.o;have:=W.o;omega);go_wp2;go_ret;exact⟨_,rfl,by rw[<-HE.o];exact hO,M⟩
