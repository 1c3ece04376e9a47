import Derived.Lib.ConvBytes
import Derived.Test.YtgklbhiamepfoaaGreatDoorZ32
set_option maxHeartbeats 16000000
set_option maxRecDepth 100000
namespace Go.Proofs.YtgklbhiamepfoaaGreatDoor
open Go.Proofs.Tryz Mx
variable {n g:Nat}{Z:ByteArray}{X:UInt8}
open Go.RowKit
theorem ie(h:n<Z.size):(tx Z)[n]?=Z[n]:=by
 rw[Ox (by rw[<-Lib.size_eq];exact h)];simp;rfl
def Bs(w:World)(b:Nat)(l:Tx):Prop:=∀(i:Nat)(x:UInt8),l[i]?=some x->w.cell? ⟨b,i,none⟩=Za (x.toNat:Int)
theorem qO(s:ByteArray)(w:World):∃C W,Hid ((convert 9 26 (.string s)).run prog w=.ok (.slice (some w) s.size C) W)/\Hid (Bs W w (tx s))/\Hid (OS w W):=by
 refine⟨_,_,(Lib.run_convert_string_bytes w 9 26 5 s Tryz.underlying9 Tryz.underlying26 Tryz.underlying5),Y (λi x a=>?_),⟨rfl,rfl,rfl,?_,λk d=>Lib.bytesWorld_at_old w _ s k d⟩⟩
 ·unfold World.cell?;rw[Lib.bytesWorld_at_new];have b:i<s.size:=by rw[Lib.size_eq];exact(OI.1 a).1
  have⟨_,c⟩:=co.1 (show s.data[i]?=x by simpa using a);simp[Lib.bytesCells,Array.getElem?_append,b,c]
 ·simp[Lib.bytesWorld,World.freeze]
theorem Mx.zF{s:Tx}(hc:s[n]?=X):jf g (s.drop n)=if 48<=X.toNat/\X.toNat<=57 then jf (10*g+(X.toNat-48)) (s.drop (n+1)) else none:=by
 have⟨h1,h2⟩:=OI.1 hc;rw[Fn h1,h2,jf]
def cr(s:Tx):Int:=if(num s).isSome then 0 else 3
def bZ(s:Tx):Nat:=(num s).getD 0
theorem mV(s:ByteArray)(w:World):
 Calls prog 44 #[.string s] w λH G=>H=Zr #[Zb (bZ (tx s):Int),aJ (cr (tx s))]/\Hid (OS w G):=by
 have g:s.size=(tx s).length:=Lib.size_eq s;by_cases h1:s.size<1\/6<s.size
 ·have f:num (tx s)=none:=by unfold num;rw[UY (by omega)]
  have d:Hid (cr (tx s)=3/\bZ (tx s)=0):=Y (by simp[cr,bZ,f]);have h2:(s.size:Int)<1\/¬(s.size:Int)<1/\(6:Int)<s.size:=by omega
  clear h1 f g;rw[d.1,d.2];rcases h2 with h2|⟨h2,B⟩
  all_goals
   go_enter func44,ntmps44;go_wp2_with fail;go_ret2;exact⟨rfl,(ce _ _)⟩
 ·have h2:¬(s.size:Int)<1:=by omega
  have B:¬(6:Int)<s.size:=by omega
  have h0:0<s.size:=by omega
  by_cases j:1<s.size/\s[0].toNat=48
  ·have f:num (tx s)=none:=by
    unfold num;rw[UY (.inr (.inr ⟨by omega,by rw[ie h0,show s[0]=48 from UInt8.toNat_inj.1 j.2]⟩))]
   have d:Hid (cr (tx s)=3/\bZ (tx s)=0):=Y (by simp[cr,bZ,f]);have⟨b,E⟩:=j;have b:(1:Int)<s.size:=by omega
   have E:(s[0].toNat:Int)=48:=by omega
   clear h1 f g;rw[d.1,d.2];go_enter func44,ntmps44;go_wp2_with fail;go_ret2;exact⟨rfl,(ce _ _)⟩
  ·have d:Hid (num (tx s)=jf 0 (tx s)):=Y (by
    unfold num;rw[UX];rintro(C|C|⟨C,b⟩)
    ·omega
    ·omega
    ·rw[ie h0] at b;exact j ⟨by omega,by rw[OG b];rfl⟩)
   have b:¬(1:Int)<s.size\/(1:Int)<s.size/\¬(s[0].toNat:Int)=48:=by omega
   have⟨ad,W,l,F,y⟩:=qO s w;have l:=l.o;have⟨ab,M⟩:=ZX w.heap.size;have D:=Y F;rw[<-M] at l D;have O:=Y g;have u:=Y (show s.size<=6 by omega);clear h1 j g;go_enter func44,ntmps44;rcases b with b|⟨b,E⟩
   all_goals
    go_wp2_with fail;clear l h2 B;go_loopw [4,29] (λP x wr=>∃(k v:Nat),k<=s.size/\P=Zb (v:Int)/\x=Zb (k:Int)/\Hid (wr=W)/\Hid (jf v ((tx s).drop k)=num (tx s))/\Hid (v<10^k)) (λ_ x _=>s.size-(intOf x).toNat)
    case atStart=>exact⟨0,0,ol _,rfl,rfl,Y rfl,Y (by rw[Un,d]),Y (by decide)⟩
    case round=>
     obtain⟨k,v,hk,rfl,rfl,m,i,h⟩:=hrel;by_cases r:k<s.size
     ·have I:(k:Int)<s.size:=by omega
      obtain⟨c,hc⟩:∃c,(tx s)[k]?=some c:=⟨_,ie r⟩;have A:=D k c hc;rw[<-m] at A;have a:=i.o;rw[zF hc] at a;have t:(v:Int)<1000000:=by
       have h1:=h.o;have h2:10^k<=10^6:=TD (by decide) (by have:=u.o;omega);omega
      by_cases hd:48<=c.toNat/\c.toNat<=57
      ·rw[UY hd] at a;have⟨Q,N⟩:=ZX c.toNat;have⟨q,p⟩:=ZX (Q-48);rw[<-N] at a A hd;rw[<-p] at a;have K:=Y a;have z:q<=9:=by have:=p.o;omega
       have J:=Y (show 10*v+q<10^(k+1) by rw[T5];have:=h.o;omega);have T:¬(Q:Int)<48:=by omega
       have d2:¬(57:Int)<Q:=by omega
       have X:IntKind.u8.wrap ((Q:Int)-48)=q:=by rw[UI];have:=p.o;omega
       have R:IntKind.i64.wrap (10*(v:Int))=10*v:=by rw[TI];omega
       have V:IntKind.i64.wrap (10*(v:Int)+q)=10*v+q:=by rw[TI];omega
       have w4:IntKind.i64.wrap (q:Int)=q:=by rw[TI];omega
       have S:IntKind.i64.wrap ((k:Int)+1)=(k:Int)+1:=by rw[TI];have:=u.o;omega
       have L:=Y (TH t z);clear a hd hc i h r t z;go_wp2_with fail;go_roundw
       case rel=>
        have h8:=L.o;have U:=u.o;exact⟨k+1,10*v+q,by omega,by go_num,by go_num,m,K,J⟩
       case measure=>simp[intOf];omega
      ·have e:=Y (show cr (tx s)=3/\bZ (tx s)=0 by rw[UX hd] at a;simp[cr,bZ,<-a]);have o:(c.toNat:Int)<48\/¬(c.toNat:Int)<48/\(57:Int)<c.toNat:=by omega
       clear a hd hc i h r t;rcases o with o|⟨o,ae⟩
       all_goals
        go_wp2_with fail;go_ret2;exact⟨by rw[e.1,e.2];rfl,Y (by rw[m];exact y)⟩
     ·have e:=Y (show cr (tx s)=0/\bZ (tx s)=v by
       have h1:=i.o;rw[Pi (by rw[<-O];omega)] at h1;simp[cr,bZ,<-h1,jf])
      have I:¬(k:Int)<s.size:=by omega
      go_wp2_with fail;go_ret2;exact⟨by rw[e.1,e.2];rfl,Y (by rw[m];exact y)⟩
