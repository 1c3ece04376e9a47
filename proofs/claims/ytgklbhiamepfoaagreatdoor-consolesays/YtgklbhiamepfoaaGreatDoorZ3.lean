import Derived.WalkSpells
import Derived.WalkLawsBesides
import Derived.BigQuiet
import Derived.Test.YtgklbhiamepfoaaGreatDoorRows
import Derived.Test.YtgklbhiamepfoaaGreatDoorZ2
set_option maxHeartbeats 16000000
set_option maxRecDepth 100000
namespace Go.Proofs.YtgklbhiamepfoaaGreatDoor
open Go.Proofs.Tryz Mx
variable {n g k m c:Nat}{w:World}{a:Option Addr}{l:List Int}{Z:Prop}
section
open Go.RowKit
theorem Y(h:Z):Hid Z:=h
theorem bD(h:Hid Z):Z:=h
def Bytes(w:World)(a:Option Addr)(len:Nat)(l:List Int):Prop:=
 l.length=len/\len<=maxLen/\(∀x∈l,0<=x/\x<=255)/\(0<len->∃b off,a=some ⟨b,off,none⟩/\∀i,i<len->w.cell? ⟨b,off+i,none⟩=Za (l.getD i 0))
theorem Bytes.at_(h:Bytes w a n l)(k:Nat)(m:k<n):
 ∃e f,∃c:Nat,a=some ⟨e,f,none⟩/\c<=255/\l.getD k 0=(c:Int)/\w.cell? ⟨e,f+k,none⟩=Za (c:Int)/\l.take (k+1)=l.take k++[(c:Int)]:=by
 have⟨h1,h2,g,j⟩:=h;have⟨e,f,i,hc⟩:=j (by omega);have d:k<l.length:=by omega
 have o:=g (l.getD k 0) (by rw[Oy,Ox d];exact TJ d);have⟨c,b⟩:=TA o.1;refine⟨e,f,c,i,by omega,b,by rw[hc k m,b],?_⟩;rw[Uu d];rw[Oy,Ox d] at b;simp at b;rw[b]
end
section
open Go.RowKit
theorem Lu(h:n<4294967296):bits .and .u32 (n:Int) 1=((n%2:Nat):Int):=by
 have e:=u32_and_nat n 1 h (by omega);rw[Nat.and_one_is_mod] at e;exact e
theorem Lv(h:n<4294967296):bits .xor .u32 ((n:Int)/2) 3988292384=(((n/2)^^^jI:Nat):Int):=by
 rw[show(n:Int)/2=((n/2:Nat):Int) by omega,show(3988292384:Int)=((jI:Nat):Int) from rfl];exact u32_xor_nat _ _ (by omega) oS
theorem Lw(h:n<4294967296):bits .xor .u32 (if IntKind.u32.signed=true then -1 else IntKind.u32.max) (n:Int)=((4294967295-n:Nat):Int):=by
 have e:=u32_xor_nat 4294967295 n (by omega) h;rw[show(if IntKind.u32.signed=true then(-1:Int) else IntKind.u32.max)=((4294967295:Nat):Int) from rfl,e];congr 1;apply Nat.eq_of_testBit_eq;intro i;have h1:=Nat.testBit_two_pow_sub_succ (n:=32) h i;rw[show 2^32-(n+1)=4294967295-n by omega] at h1;have h2:=Nat.testBit_two_pow_sub_one 32 i;rw[show 2^32-1=4294967295 by rfl] at h2;rw[Nat.testBit_xor,h1,h2];by_cases a:i<32
 ·simp[a]
 ·have:n.testBit i=false:=Nat.testBit_lt_two_pow (OE h (by
   have:2^32<=2^i:=TD (by omega) (by omega);omega))
  simp[a,this]
theorem Ln(f:Bytes w a n l):
 Calls prog 244 #[(a,n,g)] w λC A=>C=Zv (.int .u32 (crc l:Int))/\A=w:=by
 have D:n<=maxLen:=f.2.1;unfold maxLen at D;have m:=Y f;clear f;go_enter func244,ntmps244;go_wp2;go_loop [3,9] (λx i=>∃k X:Nat,k<=n/\Hid (X=reg 4294967295 (l.take k))/\(X:Int)<4294967296/\i=Zb k/\x=.int .u32 X)
  (λ_ i=>n-(intOf i).toNat)
 case atStart=>exact⟨0,4294967295,by omega,rfl,by omega,rfl,rfl⟩
 case round=>
  obtain⟨k,X,O,o,H,rfl,rfl⟩:=hrel;by_cases E:k<n
  ·obtain⟨N,Q,c,rfl,K,t,J,q⟩:=(bD m).at_ k E;have L:=Y t;have B:=Y q;clear t q;go_wp2;go_loop [3,17] (λx i=>∃j b:Nat,j<=8/\Hid (b=eO (X^^^c) j)/\(b:Int)<4294967296/\i=Zb j/\x=.int .u32 b)
    (λ_ i=>8-(intOf i).toNat)
   case atStart=>exact⟨0,X^^^c,by omega,rfl,by have:=jz X c (by omega) (by omega);omega,rfl,by rw[u32_xor_nat X c (by omega) (by omega)]⟩
   case round=>
    obtain⟨j,b,P,e,y,rfl,rfl⟩:=hrel;by_cases hd:(j:Int)<8
    ·have p:=Lu (n:=b) (by omega);obtain⟨Z,u,M⟩:∃Z:Nat,Hid (Z=(b/2)^^^jI)/\bits .xor .u32 ((b:Int)/2) 3988292384=(Z:Int):=⟨_,rfl,Lv (n:=b) (by omega)⟩;by_cases d:b%2=1
     ·rw[d] at p;have h:=Y (show Z=eO (X^^^c) (j+1) by rw[eO,<-e,gY,UY d,u]);have G:Hid (Z<4294967296):=(by rw[u];exact jz _ _ (by omega) oS);clear d;go_wp2;go_round
      case rel=>exact⟨j+1,Z,by omega,h,by have:=bD G;omega,by go_num,rfl⟩
      case measure=>simp[intOf];omega
     ·have v:b%2=0:=by omega
      rw[v] at p;have h:=Y (show b/2=eO (X^^^c) (j+1) by rw[eO,<-e,gY,UX d]);clear d v;go_wp2;go_round
      case rel=>exact⟨j+1,b/2,by omega,h,by omega,by go_num,by go_num⟩
      case measure=>simp[intOf];omega
    ·have r:b=ef X c 8:=by rw[e,show j=8 by omega,fY _ _ (by omega)]
     have F:=Y r;clear r;go_wp2;go_round
     case rel=>
      exact⟨k+1,b,by omega,by unfold Hid;rw[bD B,IY,<-o,bD F];simp,y,by go_num,rfl⟩
     case measure=>simp[intOf];omega
  ·have s:X=reg 4294967295 l:=by rw[o,OL (by have:=(bD m).1;omega)]
   have z:=Y s;clear s;have I:=Lw (n:=X) (by omega);go_wp2;go_ret;exact⟨by rw[crc,<-bD z];rfl,rfl⟩
end
section
open Go.RowKit
variable {kind:Int}{al:List Int}{nb:Nat}
namespace Mx
def bH(x:Int):Bool:=decide (x<0)||decide (2147483647<x)
def may(kind:Int)(al:List Int)(nb:Nat):Int:=
 if kind<0\/15<kind then 1 else if 12<al.length\/32<nb then 2 else if al.any bH then 1 else 0
theorem Ii(h:kind<0\/15<kind):may kind al nb=1:=by unfold may;rw[UY h]
theorem Ij(h:¬(kind<0\/15<kind))(h2:12<al.length\/32<nb):may kind al nb=2:=by unfold may;rw[UX h,UY h2]
theorem Kt(h:¬(kind<0\/15<kind))(h2:¬(12<al.length\/32<nb))(k:Nat)(b:k<al.length)(a:bH (al.getD k 0)=true):may kind al nb=1:=by
 unfold may;rw[UX h,UX h2,UY];rw[Uc];rw[Oy,Ox b] at a;exact⟨al[k],TJ b,a⟩
theorem oe(h:¬(kind<0\/15<kind))(h2:¬(12<al.length\/32<nb))(b:∀j,j<al.length->bH (al.getD j 0)=false):may kind al nb=0:=by
 unfold may;rw[UX h,UX h2,UX];rw[Uc];rintro⟨x,d,c⟩;obtain⟨i,a,rfl⟩:=List.getElem_of_mem d;have:=b i a;rw[Oy,Ox a] at this;simp only[Tw] at this;rw[c] at this;cases this
end Mx
def aD(w:World)(a:Option Addr)(len:Nat)(l:List Int):Prop:=
 l.length=len/\len<=maxLen/\(0<len->∃b off,a=some ⟨b,off,none⟩/\b<w.heap.size/\∀i,i<len->w.cell? ⟨b,off+i,none⟩=Zb (l.getD i 0))
theorem aD.at_(h:aD w a n l)(k:Nat)(f:k<n):
 ∃b c,∃x:Int,a=some ⟨b,c,none⟩/\b<w/\l.getD k 0=x/\w.cell? ⟨b,c+k,none⟩=Zb x:=by
 have⟨b,c,e,d,hc⟩:=h.2.2 (by omega);exact⟨b,c,_,e,d,rfl,hc k f⟩
end
section
open Go.RowKit
def aJ(n:Int):Value:=if n=0 then Zn else Zf n
theorem nK(kind:Int)(C:Option Addr)(c1 c2:Nat)(i:aD w a n l)(h2:g<=maxLen):
 Calls prog 233 #[.agg #[kind,(a,n,c1),(C,g,c2)]] w λA z=>A=Zv (aJ (may kind l g))/\OS w z:=by
 have G:n<=maxLen:=i.2.1;unfold maxLen at G h2;have o:=Y i;clear i;by_cases c:kind<0\/15<kind
 ·have b:=Y (Ii (al:=l) (nb:=g) c);rcases c with c|c
  ·go_enter func233,ntmps233;go_wp2;go_ret;exact⟨by rw[bD b];rfl,(ce _ _).alloc (OJ _) _⟩
  ·have M:¬kind<0:=by omega
   go_enter func233,ntmps233;go_wp2;go_ret;exact⟨by rw[bD b];rfl,(ce _ _).alloc (OJ _) _⟩
 ·have H:¬kind<0:=by omega
  have I:¬15<kind:=by omega
  have f:=Y ((bD o).1);by_cases d:12<n\/32<g
  ·have b:=Y (Ij (al:=l) (nb:=g) c (by rw[bD f];exact d));clear c;rcases d with d|d
   ·have y:(12:Int)<(n:Int):=by omega
    go_enter func233,ntmps233;go_wp2;go_ret;exact⟨by rw[bD b];rfl,(ce _ _).alloc (OJ _) _⟩
   ·by_cases N:(12:Int)<(n:Int)
    ·go_enter func233,ntmps233;go_wp2;go_ret;exact⟨by rw[bD b];rfl,(ce _ _).alloc (OJ _) _⟩
    ·have y:(32:Int)<(g:Int):=by omega
     go_enter func233,ntmps233;go_wp2;go_ret;exact⟨by rw[bD b];rfl,(ce _ _).alloc (OJ _) _⟩
  ·have O:¬(12:Int)<(n:Int):=by omega
   have P:¬(32:Int)<(g:Int):=by omega
   have u:=Y d;have p:=Y c;clear d c;go_enter func233,ntmps233;go_wp2;go_loop [28] (λm=>∃k:Nat,k<=n/\m=Zb k/\Hid (∀j,j<k->bH (l.getD j 0)=false))
    (λm=>n-(intOf m).toNat)
   case atStart=>exact⟨0,by omega,rfl,λj h=>absurd h (by omega)⟩
   case round=>
    obtain⟨k,K,rfl,r⟩:=hrel;by_cases t:k<n
    ·obtain⟨Q,R,x,rfl,L,v,J⟩:=(bD o).at_ k t;have q:=Y v;clear v;by_cases e:bH x=true
     ·have b:=Y (Kt (nb:=g) (bD p) (by rw[bD f];exact bD u) k (by rw[bD f];exact t) (by rw[bD q];exact e));have s:x<0\/2147483647<x:=by simpa[bH] using e
      clear e;by_cases F:x<0
      ·go_wp2;go_ret;exact⟨by rw[bD b];rfl,(ce _ _).alloc (OJ _) _⟩
      ·have E:2147483647<x:=by omega
       go_wp2;go_ret;exact⟨by rw[bD b];rfl,(ce _ _).alloc (OJ _) _⟩
     ·have s:¬(x<0\/2147483647<x):=by simpa[bH] using e
      have F:¬x<0:=by omega
      have E:¬2147483647<x:=by omega
      have D:=Y (show bH x=false by simpa using e);clear e s;go_wp2;go_round
      case rel=>
       refine⟨k+1,by omega,by go_num,λj h=>?_⟩;by_cases B:j=k
       ·rw[B,bD q];exact bD D
       ·exact r j (by omega)
      case measure=>simp[intOf];omega
    ·have b:=Y (oe (nb:=g) (bD p) (by rw[bD f];exact bD u) (λj h=>r j (by rw[bD f] at h;omega)));go_wp2;go_ret;exact⟨by rw[bD b];rfl,(ce _ _).alloc (OJ _) _⟩
end
namespace Mx
def oO(h c:Nat):Nat:=((h^^^c)*1099511628211)%18446744073709551616
def dfold(h:Nat)(l:List Int):Nat:=l.foldl (λh c=>oO h c.toNat) h
def fX(l:List Int):Nat:=dfold 14695981039346656037 l
theorem qU(h:Nat)(l:List Int)(c:Int):dfold h (l++[c])=oO (dfold h l) c.toNat:=by unfold dfold;rw[dT,RK,List.foldl_nil]
theorem Hb(h c:Nat):oO h c<18446744073709551616:=by unfold oO;exact Nat.mod_lt _ (by decide)
theorem GR(h:Nat)(l:List Int)(b:h<18446744073709551616):dfold h l<18446744073709551616:=by
 induction l generalizing h with
 |nil=>exact b
 |cons c l a=>
  unfold dfold at a ⊢;rw[RK];exact a _ (Hb _ _)
theorem tg(l:List Int):fX l<18446744073709551616:=by unfold fX;exact GR _ _ (by decide)
theorem Jw(a b:Nat)(d:a<18446744073709551616)(c:b<18446744073709551616):a^^^b<18446744073709551616:=Nat.xor_lt_two_pow (n:=64) d c
theorem LC(h c:Nat)(hc:c<256):h^^^c=h-h%256+((h%256)^^^c):=by
 have e:h^^^c=256*((h^^^c)/256)+(h^^^c)%256:=(Nat.div_add_mod _ _).symm;have f:(h^^^c)/256=h/256:=by
  have:=Nat.shiftRight_xor_distrib (a:=h) (b:=c) (i:=8);simp only[Nat.shiftRight_eq_div_pow] at this;rw[show(2:Nat)^8=256 from rfl] at this;rw[this,Nat.div_eq_of_lt hc,Nat.xor_zero]
 have d:(h^^^c)%256=(h%256)^^^c:=by
  have:=Nat.xor_mod_two_pow (a:=h) (b:=c) (n:=8);rw[show(2:Nat)^8=256 from rfl] at this;rw[this,Nat.mod_eq_of_lt hc]
 rw[e,f,d];have:=Nat.div_add_mod h 256;omega
theorem LA(x y k D:Nat)(c:D=2^k):(x^^^y)%(2*D)=(x^^^y)%D+(if x/D%2≠y/D%2 then D else 0):=by
 subst c;rw[show 2*2^k=2^k*2 by omega,Nat.mod_mul];have h1:(x^^^y)/2^k%2=(x/2^k+y/2^k)%2:=by
  have:=Nat.shiftRight_xor_distrib (a:=x) (b:=y) (i:=k);simp only[Nat.shiftRight_eq_div_pow] at this;rw[this,pH]
 rw[h1];split
 ·rename_i h;have:(x/2^k+y/2^k)%2=1:=by omega
  rw[this,Nat.mul_one]
 ·rename_i h;have:(x/2^k+y/2^k)%2=0:=by omega
  rw[this,Nat.mul_zero]
end Mx
section
open Go.RowKit
theorem zW(Z:Nat):IntKind.u64.wrap ((Z:Int)*1099511628211)=(((Z*1099511628211)%18446744073709551616:Nat):Int):=by
 simp[IntKind.wrap,IntKind.signed,IntKind.bits]
theorem qV(c:Bytes w a n l):
 Calls prog 96 #[(a,n,g)] w λu s=>u=Zv (.int .u64 (fX l:Int))/\s=w:=by
 have z:n<=maxLen:=c.2.1;unfold maxLen at z;have f:=Y c;clear c;go_enter func96,ntmps96;go_wp2;go_loop [3,8] (λy i=>∃k X:Nat,k<=n/\Hid (X=dfold 14695981039346656037 (l.take k))/\(X:Int)<18446744073709551616/\i=Zb k/\y=.int .u64 X)
  (λ_ i=>n-(intOf i).toNat)
 case atStart=>exact⟨0,14695981039346656037,by omega,rfl,by omega,rfl,rfl⟩
 case round=>
  obtain⟨k,X,D,j,A,rfl,rfl⟩:=hrel;by_cases o:k<n
  ·obtain⟨C,H,d,rfl,F,h,E,m⟩:=(bD f).at_ k o;have G:=Y h;have t:=Y m;clear h m;obtain⟨Z,x,B⟩:∃Z:Nat,Hid (Z=X^^^d)/\bits .xor .u64 (X:Int) (d:Int)=(Z:Int):=⟨_,rfl,u64_xor_nat X d (by omega) (by omega)⟩;have v:=zW Z;have⟨e,b⟩:=ZX ((Z*1099511628211)%18446744073709551616);rw[<-b] at v;have q:=Y (show e=dfold 14695981039346656037 (l.take (k+1)) by
    rw[t,qU,<-j,oO,m6,<-x,b])
   have p:(e:Int)<18446744073709551616:=by have:=b.o;omega
   go_wp2;go_round
   case rel=>exact⟨k+1,e,by omega,q,p,by go_num,rfl⟩
   case measure=>simp[intOf];omega
  ·have r:=Y (show X=fX l by rw[j,OL (by have:=(bD f).1;omega),fX]);go_wp2;go_ret;exact⟨by rw[<-bD r]<;>rfl,rfl⟩
theorem GS(a:k=2^g)(b:m=(n^^^c)%k)(hd:k<256):
 k*2=2^(g+1)/\g<8/\k*2<=256/\(n/k%2≠c/k%2->m+k=(n^^^c)%(k*2))/\(n/k%2=c/k%2->m=(n^^^c)%(k*2))/\m<k:=by
 have e:g<8:=by
  rcases Uk g 8 with h|h
  ·exact h
  ·have:=TD (n:=2) (by omega) h;omega
 have d:=LA n c g k a;have i:0<k:=by rw[a];exact Nat.pow_pos (by omega)
 refine⟨by rw[a,T5],e,?_,λh=>?_,λh=>?_,by rw[b];exact Nat.mod_lt _ i⟩
 ·have:=TD (n:=2) (by omega) (show g+1<=8 by omega);rw[a,<-T5];omega
 ·rw[Nat.mul_comm,d,UY h,b]
 ·rw[Nat.mul_comm,d,UX (λf=>f h),b,wn]
theorem Kc(a:k=2^g)(e:m=(n^^^c)%k)(f:g<=8)(hd:256<=k)(d:n<256)(hc:c<256):m=n^^^c:=by
 have b:g=8:=by
  rcases Uk g 8 with h|h
  ·have:=TD (n:=2) (by omega) (show g<=7 by omega);omega
  ·omega
 subst b;rw[e,a];exact Nat.mod_eq_of_lt (Nat.xor_lt_two_pow (n:=8) d hc)
theorem nP(i:Bytes w a n l):
 Calls prog 64 #[(a,n,g)] w λJ H=>J=Zv (.int .u64 (fX l:Int))/\∃d,H=w.drewN d:=by
 have U:n<=maxLen:=i.2.1;unfold maxLen at U;have s:=Y i;clear i;go_enter func64,ntmps64;go_wp2;go_loopw [3,4] (λx m wr=>∃k X:Nat,k<=n/\Hid (X=dfold 14695981039346656037 (l.take k))/\(X:Int)<18446744073709551616/\m=Zb k/\x=.int .u64 X/\∃d,wr=w.drewN d)
  (λ_ m _=>n-(intOf m).toNat)
 case atStart=>exact⟨0,14695981039346656037,by omega,rfl,by omega,rfl,rfl,0,rfl⟩
 case round=>
  obtain⟨k,X,hk,t,V,rfl,rfl,d,rfl⟩:=hrel;by_cases P:k<n
  ·obtain⟨ao,au,c,rfl,ah,B,af,z⟩:=(bD s).at_ k P;have HC:=Y B;have I:=Y z;clear B z;obtain⟨L,K,ar⟩:∃L:Nat,Hid (L=X%256)/\((X:Int)%256)=(L:Int):=⟨X%256,rfl,by omega⟩;have ae:(L:Int)<=255:=by omega
   have ad:(L:Int)<=X:=by omega
   go_wp2;go_loopw [6,7] (λx o wr=>∃j D M:Nat,j<=8/\Hid (D=2^j)/\(1:Int)<=D/\(D:Int)<=256/\Hid (M=(L^^^c)%D)/\(M:Int)<D/\o=.int .u64 D/\x=.int .u64 M/\∃d,wr=w.drewN d)
    (λ_ o _=>256-(intOf o).toNat)
   case atStart=>exact⟨0,1,0,by omega,rfl,by omega,by omega,by unfold Hid;omega,by omega,rfl,rfl,d,rfl⟩
   case round=>
    obtain⟨j,D,M,T,C,ap,ak,v,aj,rfl,rfl,ab,rfl⟩:=hrel;by_cases hd:(D:Int)<256
    ·have an:0<=(c:Int)/(D:Int):=Int.ediv_nonneg (by omega) (by omega);have ag:(c:Int)/(D:Int)<=255:=by
      have:=Int.ediv_le_self (D:Int) (a:=(c:Int)) (by omega);omega
     have am:0<=(L:Int)/(D:Int):=Int.ediv_nonneg (by omega) (by omega);have ai:(L:Int)/(D:Int)<=255:=by
      have:=Int.ediv_le_self (D:Int) (a:=(L:Int)) (by omega);omega
     have E:=Y (GS C v (by omega));have b:(L:Int)/(D:Int)%2=((L/D%2:Nat):Int):=by simp
     have e:(c:Int)/(D:Int)%2=((c/D%2:Nat):Int):=by simp
     by_cases f:L/D%2=c/D%2
     ·have O:((L:Int)/(D:Int)%2 !=(c:Int)/(D:Int)%2)=false:=by rw[b,e,f];simp
      have q:=Y f;clear f b e;go_wp2;go_quiet (fail);go_wp2;go_roundw
      case rel=>
       have⟨b,e,R,y,u,S⟩:=bD E;exact⟨j+1,D*2,M,by omega,b,by omega,by omega,u q,by omega,by go_num,rfl,_,rfl⟩
      case measure=>simp[intOf];omega
     ·have O:((L:Int)/(D:Int)%2 !=(c:Int)/(D:Int)%2)=true:=by
       rw[b,e];simp only[bne_iff_ne,ne_eq];omega
      have q:=Y f;clear f b e;go_wp2;go_quiet (fail);go_wp2;go_roundw
      case rel=>
       have⟨b,e,R,y,u,S⟩:=bD E;exact⟨j+1,D*2,M+D,by omega,b,by omega,by omega,y q,by omega,by go_num,by go_num,_,rfl⟩
      case measure=>simp[intOf];omega
    ·have A:M=L^^^c:=Kc C v T (by omega) (by omega) (by omega);have⟨Z,r⟩:=ZX (X^^^c);have W:(X:Int)-(L:Int)+(M:Int)=(Z:Int):=by
      have h1:=LC X c (by omega);rw[<-r,<-K,<-A] at h1;omega
     have aq:(Z:Int)<18446744073709551616:=by
      have:=Jw X c (by omega) (by omega);rw[<-r] at this;omega
     have N:=zW Z;have⟨p,h⟩:=ZX ((Z*1099511628211)%18446744073709551616);rw[<-h] at N;have Q:=Y (show p=dfold 14695981039346656037 (l.take (k+1)) by
      rw[I,qU,<-t,oO,m6,<-r,h])
     have F:(p:Int)<18446744073709551616:=by have:=h.o;omega
     clear A;go_wp2;go_roundw
     case rel=>exact⟨k+1,p,by omega,Q,F,by go_num,rfl,_,rfl⟩
     case measure=>simp[intOf];omega
  ·have G:=Y (show X=fX l by rw[t,OL (by have:=(bD s).1;omega),fX]);go_wp2;go_ret;exact⟨by rw[<-bD G]<;>rfl,_,rfl⟩
