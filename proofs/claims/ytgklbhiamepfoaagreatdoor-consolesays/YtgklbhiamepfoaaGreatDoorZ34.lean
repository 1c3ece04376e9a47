import Derived.Lib.ItoaLen
import Derived.Test.YtgklbhiamepfoaaGreatDoorZ33
set_option maxHeartbeats 16000000
set_option maxRecDepth 100000
namespace Go.Proofs.YtgklbhiamepfoaaGreatDoor
open Go renaming World->W_,Value->V_,Calls->C_,Addr->A_
open Go.RowKit renaming Hid->H_
open Go.Proofs.Tryz Mx
variable {n k m c j:Nat}{v u r B:W_}{x y z:Int}{Z h:List De}{d:B8}{X e:Pf_}{W:Of_}{a q:Option A_}{V:ByteArray}{U D:UInt8}{T:List (List B8)}{l:List B8}{S b:Rc_}{R:List Lt_}{Q:V_}{P:Array Oper}{O:Oper}{N:Act}{M:Exit->Act->W_->Prop}{L I:Operand}{K:TypeId}{J C:Nat->Prop}{H:Act->W_->Prop}{G:Prop}{A f:Nat→Prop}{F:De}{E:Array V_}{t:Obj}{s:Pk}{o:List ByteArray}{i:Bu}
open Go.RowKit
theorem JC(c:UInt8)(w:W_):(convert 26 9 (w,1,1)).run prog (w.alloc (.cells #[Za (c.toNat:Int)] 5))=.ok (.string ⟨#[c]⟩) (w.alloc (.cells #[Za (c.toNat:Int)] 5)):=
 run_convert_bytes_back (P:=prog) _ 26 9 5 ⟨w,0,none⟩ 1 [c] Tryz.underlying26 Tryz.underlying5 Tryz.underlying9 (λj a=>by
  obtain rfl:j=0:=by simpa using a
  simp[Addr.add])
theorem nO(h:n<18446744073709551616):(Lib.decDigits n).length<=20:=by rw[Lib.decDigits_length];exact Lib.nDigits_le20 n h
theorem fa(a b:Tx):(⟨a.toArray⟩:ByteArray)++(⟨b.toArray⟩:ByteArray)=⟨(a++b).toArray⟩:=by
 apply ByteArray.ext;simp[ByteArray.data_append]
theorem Ju:∀(u:Nat) (_:u<18446744073709551616) (w:W_),
 C_ prog 39 #[.int .u64 (u:Int)] w λf e=>f=Zv (.string ⟨(Lib.decDigits u).toArray⟩)/\H_ (OS w e):=by
 intro u;induction u using Nat.strongRecOn with
 |_ u ih=>
  intro d w;obtain⟨c,hc⟩:∃c:UInt8,H_ (c=UInt8.ofNat (48+u%10)):=⟨_,rfl⟩;have j:=JC c w;rw[show(c.toNat:Int)=48+(u:Int)%10 by rw[hc];simp;omega] at j;have⟨q,a⟩:=ZX (u/10);have m:(u:Int)/10=q:=by have:=a.o;omega
  have o:IntKind.u64.wrap (q:Int)=q:=by rw[IntKind.wrap_u64];have:=a.o;omega
  by_cases h:u<10
  ·have k:(u:Int)<10:=by omega
   have b:=Y (show Lib.decDigits u=[c] by rw[Lib.decDigits,dif_pos h,hc,Nat.mod_eq_of_lt h]);clear d ih;go_enter func39,ntmps39;go_wp2;go_ret;exact⟨by rw[b];rfl,(af)⟩
  ·have k:¬(u:Int)<10:=by omega
   have b:=Y (show Lib.decDigits u=Lib.decDigits q++[c] by rw[Lib.decDigits,dif_neg h,hc,a]);have l:=Y (ih q (by rw[a];omega) (by rw[a];omega) (w.alloc (.cells #[Za (48+(u:Int)%10)] 5)));clear ih;have i:=Y d;clear d;go_enter func39,ntmps39;go_wp2_with fail;refine l.mono ?_;rintro f e ⟨rfl,D⟩;have hs:¬9223372036854775807<(Lib.decDigits q).length+1:=by have:=nO (n:=q) (by rw[a];have:=i.o;omega);omega
   go_wp2;go_ret;exact⟨by rw[b,<-fa];rfl,((af).trans (D.mono (by simp)))⟩
theorem oM:∀(u:Nat) (_:u<1000000000) (w:W_),
 C_ prog 38 #[u] w λf e=>f=Zv (.string ⟨(Lib.itoa (u:Int)).toArray⟩)/\H_ (OS w e):=by
 intro u;rw[Lib.itoa_nonneg];induction u using Nat.strongRecOn with
 |_ u ih=>
  intro i w;obtain⟨c,hc⟩:∃c:UInt8,H_ (c=UInt8.ofNat (48+u%10)):=⟨_,rfl⟩;have⟨q,a⟩:=ZX (u/10);have⟨r,d⟩:=ZX (u%10);have k:=JC c w;rw[show(c.toNat:Int)=48+(r:Int) by rw[hc,d];simp;omega] at k;have j:(u:Int)/10=q:=by have:=a.o;omega
  have o:(u:Int)%10=r:=by have:=d.o;omega
  have t:(u:Int).tdiv 10=q:=by rw[Int.tdiv_eq_ediv_of_nonneg (by omega)];exact j
  have v:(u:Int).tmod 10=r:=by rw[TZ (by omega)];exact o
  have s:IntKind.i64.wrap (q:Int)=q:=by rw[TI];have:=a.o;omega
  have y:¬(r:Int)<0:=by omega
  have x:¬(u:Int)<0:=by omega
  have p:IntKind.u8.wrap (48+(r:Int))=48+r:=by rw[UI];have:=d.o;omega
  by_cases h:u<10
  ·have l:(q:Int)=0:=by have:=a.o;omega
   have b:=Y (show Lib.decDigits u=[c] by rw[Lib.decDigits,dif_pos h,hc,Nat.mod_eq_of_lt h]);clear i ih h;go_enter func38,ntmps38;go_wp2;go_ret;exact⟨by rw[b];rfl,(af)⟩
  ·have l:¬(q:Int)=0:=by have:=a.o;omega
   have b:=Y (show Lib.decDigits u=Lib.decDigits q++[c] by rw[Lib.decDigits,dif_neg h,hc,a]);have m:=Y (ih q (by rw[a];omega) (by rw[a];omega) (w.alloc (.cells #[Za (48+(r:Int))] 5)));have hs:¬9223372036854775807<(Lib.decDigits q).length+1:=by have:=nO (n:=q) (by rw[a];omega);omega
   clear i ih h;go_enter func38,ntmps38;go_wp2_with fail;refine m.mono ?_;rintro f e ⟨rfl,D⟩;go_wp2;go_ret;exact⟨by rw[b,<-fa];rfl,((af).trans (D.mono (by simp)))⟩
theorem eN(u:Nat)(b:u<100)(w:W_):
 C_ prog 34 #[u] w λe a=>e=Zv (.string ⟨(er (u:Int)).toArray⟩)/\H_ (OS w a):=by
 have hs:¬9223372036854775807<6+(Lib.itoa (u:Int)).length:=by
  have:=Lib.itoa_length_le (u:Int) (by omega) (by omega);omega
 go_enter func34,ntmps34;go_wp2_with (go_at_call 38;refine(oM u (by omega) w).mono ?_;rintro e a ⟨rfl,D⟩);go_ret;exact⟨by rw[show(#[101,114,114,111,114,32]:Array UInt8)=[101,114,114,111,114,32].toArray from rfl,fa];rfl,D⟩
theorem Gb:
 C_ prog 33 #[.string V] v λr C=>r=Zr #[Zb (bZ (tx V):Int),Zl (decide (cr (tx V)=0))]/\C=v:=by
 have e:V.size=(tx V).length:=Lib.size_eq V;by_cases h0:V=ByteArray.empty
 ·subst h0;go_enter func33,ntmps33;go_wp2;go_ret2;exact⟨rfl,rfl⟩
 ·have i:0<V.size:=by
   rcases V with ⟨⟨z⟩⟩
   cases z with
   |nil=>exact absurd rfl h0
   |cons R z=>simp[ByteArray.size]
  have W:V.toList.isEmpty=false:=by
   rw[ByteArray.toList_eq,List.isEmpty_eq_false_iff];intro r;rw[e,show tx V=[] from r] at i;cases i
  by_cases h1:6<V.size
  ·have h:num (tx V)=none:=by unfold num;rw[UY (by omega)]
   have d:H_ (cr (tx V)=3/\bZ (tx V)=0):=Y (by simp[cr,bZ,h]);have h2:(6:Int)<V.size:=by omega
   clear h1 h e;rw[d.1,d.2];go_enter func33,ntmps33;go_wp2;go_ret2;exact⟨rfl,rfl⟩
  ·have h2:¬(6:Int)<V.size:=by omega
   by_cases m:1<V.size/\V[0].toNat=48
   ·have h:num (tx V)=none:=by
     unfold num;rw[UY (.inr (.inr ⟨by omega,by rw[ie i,show V[0]=48 from UInt8.toNat_inj.1 m.2]⟩))]
    have d:H_ (cr (tx V)=3/\bZ (tx V)=0):=Y (by simp[cr,bZ,h]);have⟨c,B⟩:=m;have c:(1:Int)<V.size:=by omega
    have B:(V[0].toNat:Int)=48:=by omega
    clear h1 h e;rw[d.1,d.2];go_enter func33,ntmps33;go_wp2;go_ret2;exact⟨rfl,rfl⟩
   ·have d:H_ (num (tx V)=jf 0 (tx V)):=Y (by
     unfold num;rw[UX];rintro(A|A|⟨A,c⟩)
     ·omega
     ·omega
     ·rw[ie i] at c;exact m ⟨by omega,by rw[OG c];rfl⟩)
    have c:¬(V[0].toNat:Int)=48\/(V[0].toNat:Int)=48/\¬(1:Int)<V.size:=by omega
    have I:=Y e;have t:=Y (show V.size<=6 by omega);clear h1 m e;go_enter func33,ntmps33;rcases c with c|⟨c,B⟩
    all_goals
     go_wp2;clear h2;go_loopw [4,5] (λJ u wr=>∃(k a:Nat),k<=V.size/\J=Zb (a:Int)/\u=Zb (k:Int)/\H_ (wr=v)/\H_ (jf a ((tx V).drop k)=num (tx V))/\H_ (a<10^k)) (λ_ u _=>V.size-(intOf u).toNat)
     case atStart=>exact⟨0,0,ol _,rfl,rfl,Y rfl,Y (by rw[Un,d]),Y (by decide)⟩
     case round=>
      obtain⟨k,a,T,rfl,rfl,x,l,j⟩:=hrel;by_cases H:k<V.size
      ·have D:(k:Int)<V.size:=by omega
       have b:=l.o;rw[zF (ie H)] at b;have s:(a:Int)<1000000:=by
        have h1:=j.o;have h2:10^k<=10^6:=TD (by decide) (by have:=t.o;omega);omega
       by_cases hd:48<=V[k].toNat/\V[k].toNat<=57
       ·rw[UY hd] at b;obtain⟨q,p⟩:∃q:Nat,H_ (q=V[k].toNat-48):=⟨_,Y rfl⟩;rw[<-p] at b;have F:=Y b;have y:q<=9:=by have:=p.o;omega
        have E:=Y (show 10*a+q<10^(k+1) by rw[T5];have:=j.o;omega);have M:¬(V[k].toNat:Int)<48:=by omega
        have Q:¬(57:Int)<V[k].toNat:=by omega
        have P:IntKind.u8.wrap ((V[k].toNat:Int)-48)=q:=by rw[UI];have:=p.o;omega
        have K:IntKind.i64.wrap ((a:Int)*10)=10*a:=by rw[TI];omega
        have O:IntKind.i64.wrap (10*(a:Int)+q)=10*a+q:=by rw[TI];omega
        have S:IntKind.i64.wrap (q:Int)=q:=by rw[TI];omega
        have L:IntKind.i64.wrap ((k:Int)+1)=(k:Int)+1:=by rw[TI];have:=t.o;omega
        have G:=Y (TH s y);clear b hd l j s y;go_wp2;go_roundw
        case rel=>
         have U:=G.o;have N:=t.o;exact⟨k+1,10*a+q,by omega,by go_num,by go_num,x,F,E⟩
        case measure=>simp[intOf];omega
       ·have f:=Y (show cr (tx V)=3/\bZ (tx V)=0 by rw[UX hd] at b;simp[cr,bZ,<-b]);have o:(V[k].toNat:Int)<48\/¬(V[k].toNat:Int)<48/\(57:Int)<V[k].toNat:=by omega
        clear b hd l j s;rcases o with o|⟨o,X⟩
        all_goals
         go_wp2;go_ret2;exact⟨by rw[f.1,f.2];rfl,x⟩
      ·have f:=Y (show cr (tx V)=0/\bZ (tx V)=a by
        have h1:=l.o;rw[Pi (by rw[<-I];omega)] at h1;simp[cr,bZ,<-h1,jf])
       have D:¬(k:Int)<V.size:=by omega
       go_wp2;go_ret2;exact⟨by rw[f.1,f.2];rfl,x⟩
theorem Mx.No(h1:dg[k]?=U)(h2:∀j,j<k->dg[j]?≠some U):hx U=k:=by
 have e:=iy U;by_cases h:hx U=-1
 ·exact absurd h1 (Lib.indexByte_none h k)
 ·obtain⟨i,a⟩:∃i:Nat,Lib.indexByte dg U=i:=⟨(hx U).toNat,by unfold hx at h e ⊢;omega⟩;have⟨f,l⟩:=Lib.indexByte_some a;have:i=k:=by
   rcases Nat.lt_trichotomy i k with c|b|d
   ·exact absurd f (h2 i c)
   ·exact b
   ·exact absurd h1 (l k d)
  unfold hx;rw[a,this]
theorem th(c:UInt8):
 C_ prog 67 #[Za (c.toNat:Int)] v λe s=>e=Zv (Zb (hx c))/\s=v:=by
 have h:∀k:Nat,k<16->∃d:UInt8,dg[k]?=d/\∀v:W_,(Instr.index 9 (.string ⟨#[48,49,50,51,52,53,54,55,56,57,97,98,99,100,101,102]⟩) (Zb (k:Int))).run prog v=.ok (Za (d.toNat:Int)) v:=λk m=>by
  refine⟨dg[k]'(by show k<16;exact m),Ox _,λv=>?_⟩;rw[run_index_string v 9 _ .i64 k Tryz.underlying9,dif_pos ⟨by omega,by show(k:Int)<16;omega⟩];rfl
 have r:=Y h;clear h;go_enter func67,ntmps67;go_wp2;go_loopw [3] (λt wr=>∃k:Nat,k<=16/\t=Zb (k:Int)/\H_ (wr=v)/\H_ (∀j,j<k->dg[j]?≠some c)) (λt _=>16-(intOf t).toNat)
 case atStart=>exact⟨0,by omega,rfl,Y rfl,Y (λj x=>by omega)⟩
 case round=>
  obtain⟨k,m,rfl,f,b⟩:=hrel;by_cases q:k<16
  ·have u:(k:Int)<16:=by omega
   have⟨d,hd,o⟩:=r k q;have n:=Y hd;clear hd;by_cases hc:d=c
   ·have y:(d.toNat:Int)=c.toNat:=by rw[hc]
    have a:=Y (No (by rw[n,hc]) b);clear hc;go_wp2;go_ret;exact⟨by rw[a];rfl,f⟩
   ·have y:¬(d.toNat:Int)=c.toNat:=λe=>hc (UInt8.toNat_inj.1 (by omega))
    have a:=Y (show ∀j,j<k+1->dg[j]?≠some c from λj x e=>by
     by_cases z:j<k
     ·exact b j z e
     ·obtain rfl:j=k:=by omega
      rw[n] at e;exact hc (OG e))
    clear hc;go_wp2;go_roundw
    case rel=>exact⟨k+1,by omega,by go_num,f,a⟩
    case measure=>simp[intOf];omega
  ·have u:¬(k:Int)<16:=by omega
   have a:=Y (show hx c=-1 from by
    have o:=iy c;by_cases l:hx c=-1
    ·exact l
    ·obtain⟨i,p⟩:∃i:Nat,Lib.indexByte dg c=i:=⟨(hx c).toNat,by unfold hx at l o ⊢;omega⟩
     have A:=(oQ p).2.2;exact absurd (Lib.indexByte_some p).1 (b i (by have:dg.length=16:=rfl;omega)))
   go_wp2;go_ret;exact⟨by rw[a];rfl,f⟩
theorem Mx.CE(s:Tx)(k i:Nat)(h:i≠k/2):bAt s (k+1) i=bAt s k i:=by
 unfold bAt;by_cases h1:2*i+1<k
 ·rw[UY h1,UY (by omega)]
 ·rw[UX h1,UX (by omega)];by_cases h2:2*i<k
  ·rw[UY h2,UY (by omega)]
  ·rw[UX h2,UX (by omega)]
theorem Mx.sk(s:Tx)(k:Nat)(a:k<16):(bTo s k).arr.setIfInBounds (k/2) (Za (bAt s (k+1) (k/2)))=(bTo s (k+1)).arr:=by
 have h:k/2=0\/k/2=1\/k/2=2\/k/2=3\/k/2=4\/k/2=5\/k/2=6\/k/2=7:=by omega
 have o:=CE s k;rcases h with h|h|h|h|h|h|h|h<;>simp[B8.arr,bTo,h,o]
theorem Mx.Gk(s:Tx)(i:Nat)(a:i<8):(bTo s (2*i)).arr.setIfInBounds i (Za (bAt s (2*i+2) i))=(bTo s (2*i+2)).arr:=by
 have h1:=sk s (2*i) (by omega);have h2:=sk s (2*i+1) (by omega);rw[show(2*i)/2=i by omega] at h1;rw[show(2*i+1)/2=i by omega,<-h1] at h2;rw[<-h2];apply TW;intro j;simp only[Uh,Array.size_setIfInBounds];split<;>rfl
theorem Mx.CG(s:Tx)(k j:Nat)(a:j<8):(bTo s k).arr[j]?=Za (bAt s k j):=by
 match j,a with
 |0,_=>rfl
 |1,_=>rfl
 |2,_=>rfl
 |3,_=>rfl
 |4,_=>rfl
 |5,_=>rfl
 |6,_=>rfl
 |7,_=>rfl
def eo(s:Tx):Int:=if(blk s).isSome then 0 else 3
def fG(s:Tx):B8:=(blk s).getD zB
theorem Mx.vW{s:ByteArray}(h:k<s.size):gB (tx s) k=hx s[k]:=by
 unfold gB;rw[Oy,ie h];rfl
theorem sq(a:k<V.size)(h:hx V[k]<0):eo (tx V)=3/\fG (tx V)=zB:=by
 have:blk (tx V)=none:=by
  unfold blk;rw[UX];rintro⟨_,h2⟩;have:=h2 _ (OR (ie a));omega
 simp[eo,fG,this]
theorem vY(c:UInt8)(X:Int)(b:X=hx c)(w:W_):
 C_ prog 28 #[.string ⟨#[48,49,50,51,52,53,54,55,56,57,97,98,99,100,101,102]⟩,Za (c.toNat:Int)] w λe a=>e=Zv (Zb X)/\a=w:=
 (zl w).mono (by
   rintro e a ⟨rfl,rfl⟩;refine⟨?_,rfl⟩;rw[b,m6,show c.toNat.toUInt8=c by simp];rfl)
theorem Ob:∀v:Fin 16,∀x:Fin 16,bits .or .u8 ((v.1:Int)*16%256) ((x.1:Int)%256)=16*v.1+x.1:=by decide
theorem nib(h0:0<=y)(h1:y<=15)(h2:0<=x)(a:x<=15):bits .or .u8 (y*16%256) (x%256)=16*y+x:=by
 have h:=Ob ⟨y.toNat,by omega⟩ ⟨x.toNat,by omega⟩;simp only[Int.toNat_of_nonneg h0,Int.toNat_of_nonneg h2] at h;exact h
theorem BT(hd:d=fG (tx V)):
 C_ prog 45 #[.string V] v λM w'=>M=Zr #[d,aJ (eo (tx V))]/\H_ (OS v w'):=by
 have P:V.size=(tx V).length:=Lib.size_eq V;have⟨b,H⟩:=ZX (v.alloc (.cells () 65));have h:H_ (Bx b v zB.arr 65):=(by rw[H];exact Bx.new v _ _);have B0:=beA H;by_cases h1:V.size=16
 ·have h2:(V.size:Int)=16:=by omega
  have⟨O,N⟩:=ZX (b.alloc (.cells () 65));have K1:H_ (Bx O b zB.arr 65):=(by rw[N];exact Bx.new b _ _);have D1:=beA N;have B1:=Y (B0.t D1);have R1:=Y (h.later D1 h.lt);have⟨aw,ar,I,HB,R⟩:=qO V O;have I:=I.o;have⟨g,hg⟩:=ZX O.heap.size;have⟨a,ad⟩:=ZX b.heap.size;have ae:=Y HB;rw[<-hg] at I ae;have K2:=Y (K1.later R K1.lt);have L:=Y (R1.later R R1.lt);have J:=Y (B1.t R);have ah:H_ (a≠v/\a≠g/\v≠g/\v<=a):=Y (by rw[hg,ad];have:=h.lt;have:=K1.lt;omega);rw[<-ad] at K2;have HL:=Y P;clear h1 P;go_enter func45,ntmps45;go_upto_region 1 with fail;rw[<-H];go_upto_region 4 with fail;rw[<-N,<-ad];go_wp2;clear I;go_loopw [16] (λT wr=>∃k:Nat,k<=16/\T=Zb (k:Int)/\H_ (Bx wr a (bTo (tx V) k).arr 65)/\H_ (Bx wr v zB.arr 65)/\H_ (Bs wr g (tx V))/\H_ (OS v wr)/\H_ (∀j,j<k->0<=gB (tx V) j)) (λT _=>16-(intOf T).toNat)
  case atStart=>exact⟨0,by omega,rfl,(show Bx ar a _ _ from K2),L,ae,J,Y (λj u=>by omega)⟩
  case round=>
   obtain⟨k,hk,rfl,G,e,hS,Q,hN⟩:=hrel;by_cases ap:k<16
   ·have am:(k:Int)<V.size:=by omega
    have S:k<V.size:=by omega
    have hc:=hS k V[k] (ie S);have K:=Y (vW (s:=V) S);obtain⟨X,z⟩:∃X:Int,H_ (X=hx V[k]):=⟨_,Y rfl⟩;by_cases hx:X<0
    ·have o:=Y (sq S (by rw[<-z];exact hx));have au:=Y (show d=zB by rw[hd,o.2]);have rz:=e.frozen;have⟨r0,r1,r2,r3,r4,r5,r6,r7⟩:=Bx.eight (x:=zB) e;clear hd;go_wp2_with fail;refine(vY V[k] X z _).mono ?_;rintro M q ⟨rfl,rfl⟩;go_wp2;change bodyPost prog Tryz.f45 _ _ _ (aV q v 0 zB);have f:=Y (kh e zB);have c:=Y (bP Q (OJ v) 0 zB);have⟨w4,U⟩:=ZX (aV q v 0 zB);rw[<-U] at f c ⊢;have⟨F,B,E,C,s,r,m,t⟩:=Bx.eight (x:=zB) f;exact UM (by simp[results,results45,go_sem,F,B,E,C,s,r,m,t];rfl) rfl ⟨by rw[o.1,au];rfl,c⟩
    ·have⟨j,u⟩:=ZX (k/2);have av:j<8:=by have:=u.o;omega
     have t1:(k:Int)/2=j:=by have:=u.o;omega
     have t2:(k:Int).tdiv 2=j:=by rw[Int.tdiv_eq_ediv_of_nonneg (by omega)];exact t1
     have t3:IntKind.i64.wrap (j:Int)=j:=by rw[TI];omega
     have ax:(j:Int)<8:=by omega
     have⟨ab,hV⟩:=ZX (bAt (tx V) k j);have cj:=G.out.cell j;rw[CG _ _ _ av,<-hV] at cj;have kz:=G.out.frozen;go_wp2_with fail;refine(vY V[k] X z _).mono ?_;rintro M q ⟨rfl,rfl⟩;have af:=iy V[k];have A:=Y (show H_ (0<=X/\X<=15)/\0<=ab/\ab<=15/\16*ab+X=bAt (tx V) (k+1) j from by
      rw[<-z] at af K;refine⟨Y (by omega),?_⟩;have l:=hV.o;unfold bAt at l ⊢;have:=u.o;by_cases hp:k=2*j
      ·subst hp
       rw[UX (by omega),UX (by omega)] at l;rw[UX (by omega),UY (by omega),K];omega
      ·have ak:k=2*j+1:=by omega
       subst ak;rw[UX (by omega),UY (by omega)] at l;rw[UY (by omega),K,<-l];have h3:=hN (2*j) (by omega);have h4:=iy ((tx V).getD (2*j) 0);unfold gB at l h3;omega)
     have aq:=nib A.2.1 A.2.2.1 A.1.1 A.1.2;rw[A.2.2.2] at aq;have K3:=Y (show Bx (q.setCell (a,j) (Za (bAt (tx V) (k+1) j))) a (bTo (tx V) (k+1)).arr 65 by
      rw[<-sk (tx V) k ap,<-u];exact G.out.set j _)
     have aj:=ah.o;have f:=Y (e.other ⟨a,j,none⟩ (Za (bAt (tx V) (k+1) j)) (by show v≠a;omega));have S3:=Y (show Bs (q.setCell (a,j) (Za (bAt (tx V) (k+1) j))) g (tx V) from λi x hx=>by
      rw[World.cell?_setCell_other _ _ _ _ (by simp)];exact hS i x hx)
     have c:=Y (Q.setCell (p:=(a,j)) (by show v<=a;omega) (Za (bAt (tx V) (k+1) j)));have N3:=Y (show ∀i,i<k+1->0<=gB (tx V) i from λi W=>by
      by_cases an:i<k
      ·exact hN i an
      ·obtain rfl:i=k:=by omega
       rw[K,<-z];omega)
     clear aj af;go_wp2;exact⟨⟨k+1,by omega,by go_num,K3,f,S3,c,N3⟩,by simp[intOf];omega⟩
   ·obtain rfl:k=16:=by omega
    have am:¬((16:Nat):Int)<V.size:=by omega
    obtain⟨D,hD⟩:∃D:B8,H_ (D=bTo (tx V) 16):=⟨_,rfl⟩;have o:=Y (show eo (tx V)=0/\d=D by
     have al:∀ai∈tx V,0<=hx ai:=λai hc=>by
      have⟨i,W⟩:=TN.1 hc;have h9:=hN i (by have:=(OI.1 W).1;rw[<-HL] at this;omega);unfold gB at h9
      rwa [Oy,W] at h9
     have:blk (tx V)=D:=by unfold blk;rw[UY ⟨by rw[<-HL];omega,al⟩,hD]
     rw[hd];simp[eo,fG,this])
    have ag:=Y G.out;rw[<-hD] at ag;have rz:=e.frozen;have⟨r0,r1,r2,r3,r4,r5,r6,r7⟩:=Bx.eight (x:=zB) e;have⟨f0,f1,f2,f3,f4,f5,f6,f7⟩:=Bx.eight ag;have aj:=ah.1;clear hd;go_wp2;change bodyPost prog Tryz.f45 _ _ _ (aV wr v 0 D);have f:=Y (kh e D);have c:=Y (bP Q (OJ v) 0 D);have⟨w4,U⟩:=ZX (aV wr v 0 D);rw[<-U] at f c ⊢;have⟨F,B,E,C,s,r,m,t⟩:=Bx.eight f;exact UM (by simp[results,results45,go_sem,F,B,E,C,s,r,m,t];rfl) rfl ⟨by rw[o.1,o.2];rfl,c⟩
 ·have he:blk (tx V)=none:=by unfold blk;rw[UX (λM=>h1 (by omega))]
  have hE:H_ (eo (tx V)=3/\d=zB):=Y (by rw[hd];simp[eo,fG,he]);have h2:¬(V.size:Int)=16:=by omega
  clear h1 he P hd;rw[hE.1,hE.2];have rz:=h.frozen;have⟨r0,r1,r2,r3,r4,r5,r6,r7⟩:=Bx.eight (x:=zB) h;go_enter func45,ntmps45;go_upto_region 1 with fail;rw[<-H];go_wp2;change bodyPost prog Tryz.f45 _ _ _ (aV b v 0 zB);have L:=Y (kh h zB);have J:=Y (bP B0 (OJ v) 0 zB);have⟨w2,ao⟩:=ZX (aV b v 0 zB);rw[<-ao] at L J ⊢;have⟨F,B,E,C,s,r,m,t⟩:=Bx.eight (x:=zB) L;exact UM (by simp[results,results45,go_sem,F,B,E,C,s,r,m,t];rfl) rfl ⟨rfl,J⟩
theorem BX(hd:d=fG (tx V)):
 C_ prog 41 #[.string V] v λK w'=>K=Zr #[d,Zl (decide (eo (tx V)=0))]/\H_ (OS v w'):=by
 have P:V.size=(tx V).length:=Lib.size_eq V;have⟨s,G⟩:=ZX (v.alloc (.cells () 65));have R0:H_ (Bx s v zB.arr 65):=(by rw[G];exact Bx.new v _ _);have B0:=beA G;have⟨E,B⟩:=ZX (s.alloc (.cells () 65));have K1:H_ (Bx E s zB.arr 65):=(by rw[B];exact Bx.new s _ _);have D1:=beA B;have B1:=Y (B0.t D1);have C:=Y (R0.later D1 R0.lt);have⟨c,I⟩:=ZX s.heap.size;have J:H_ (c≠v/\v<=c):=Y (by rw[I];have:=R0.lt;omega);rw[<-I] at K1;by_cases h1:V.size=16
 ·have h2:(V.size:Int)=16:=by omega
  have HL:=Y P;clear h1 P;go_enter func41,ntmps41;go_upto_region 1 with fail;rw[<-G];go_upto_region 2 with fail;rw[<-B,<-I];go_wp2;go_loopw [5] (λS wr=>∃k:Nat,k<=8/\S=Zb (k:Int)/\H_ (Bx wr c (bTo (tx V) (2*k)).arr 65)/\H_ (Bx wr v zB.arr 65)/\H_ (OS v wr)/\H_ (∀Z,Z<2*k->0<=gB (tx V) Z)) (λS _=>8-(intOf S).toNat)
  case atStart=>exact⟨0,by omega,rfl,(show Bx E c _ _ from K1),C,B1,Y (λZ hj=>by omega)⟩
  case round=>
   obtain⟨k,hk,rfl,F,h,R,hN⟩:=hrel;by_cases ae:k<8
   ·have aj:(k:Int)<8:=by omega
    have g1:2*k<V.size:=by omega
    have g2:2*k+1<V.size:=by omega
    have i1:(2*(k:Int)).toNat=2*k:=by omega
    have i2:(2*(k:Int)+1).toNat=2*k+1:=by omega
    have i3:2*(k:Int)<V.size:=by omega
    have i4:2*(k:Int)+1<V.size:=by omega
    obtain⟨e,L⟩:∃e:UInt8,H_ (e=V[2*k]):=⟨_,Y rfl⟩;obtain⟨b,W⟩:∃b:UInt8,H_ (b=V[2*k+1]):=⟨_,Y rfl⟩;have x1:∀v:W_,(Instr.index 9 (.string V) (Zb (2*(k:Int)))).run prog v=.ok (Za (e.toNat:Int)) v:=λv=>by
     rw[run_index_string v 9 _ .i64 _ Tryz.underlying9,dif_pos ⟨by omega,i3⟩,L];simp only[i1]
    have x2:∀v:W_,(Instr.index 9 (.string V) (Zb (2*(k:Int)+1))).run prog v=.ok (Za (b.toNat:Int)) v:=λv=>by
     rw[run_index_string v 9 _ .i64 _ Tryz.underlying9,dif_pos ⟨by omega,i4⟩,W];simp only[i2]
    have HA:H_ (gB (tx V) (2*k)=hx e):=(by rw[L];exact vW g1);have Q:H_ (gB (tx V) (2*k+1)=hx b):=(by rw[W];exact vW g2);have⟨X,U⟩:=ZX (hx e);have⟨l,M⟩:=ZX (hx b);have ag:=Y (TH g1 g2);clear i1 i2 i3 i4;go_wp2_with fail;refine(th e).mono ?_;rintro K w3 ⟨rfl,rfl⟩;rw[<-U];go_wp2_with fail;refine(th b).mono ?_;rintro K H ⟨rfl,rfl⟩;rw[<-M];by_cases hx:X<0\/l<0
    ·have n:=Y (show eo (tx V)=3/\fG (tx V)=zB by
      rcases hx with hx|hx
      ·exact sq ag.1 (by rw[<-L,<-U];exact hx)
      ·exact sq ag.2 (by rw[<-W,<-M];exact hx))
     have an:=Y (show d=zB by rw[hd,n.2]);have O:X<0\/¬X<0/\l<0:=by omega
     have rz:=h.frozen;have⟨r0,r1,r2,r3,r4,r5,r6,r7⟩:=Bx.eight (x:=zB) h;clear hd hx x1 x2;rcases O with O|⟨O,ar⟩
     all_goals
      go_wp2;change bodyPost prog Tryz.f41 _ _ _ (aV H v 0 zB);have j:=Y (kh h zB);have f:=Y (bP R (OJ v) 0 zB);have⟨w5,al⟩:=ZX (aV H v 0 zB);rw[<-al] at j f ⊢;have⟨A,t,y,u,q,o,m,r⟩:=Bx.eight (x:=zB) j;exact UM (by simp[results,results41,go_sem,A,t,y,u,q,o,m,r];rfl) rfl ⟨by rw[n.1,an];rfl,f⟩
    ·have aq:¬X<0:=by omega
     have ap:¬l<0:=by omega
     have ad:=iy e;have ab:=iy b;rw[<-U] at ad HA;rw[<-M] at ab Q;have⟨a,z⟩:=ZX (16*X+l);have HM:=Y (show a=bAt (tx V) (2*k+2) k by
      unfold bAt;rw[UY (by omega),HA,Q,z])
     have q1:IntKind.i64.wrap (16*X)=16*X:=by rw[TI];omega
     have q2:IntKind.i64.wrap (16*X+l)=a:=by rw[TI,z];omega
     have q3:IntKind.u8.wrap a=a:=by rw[UI,z];omega
     have q4:16*X+l=a:=z.symm;have q5:a%256=a:=by rw[z];omega
     have kz:=F.out.frozen;have cj:=F.out.cell k;rw[CG _ _ _ ae] at cj;have K3:=Y (show Bx (H.setCell (c,k) (Za a)) c (bTo (tx V) (2*(k+1))).arr 65 by
      rw[HM,Nat.mul_add,<-Gk (tx V) k ae];exact F.out.set k _)
     have j:=Y (h.other ⟨c,k,none⟩ (Za a) (by show v≠c;have:=J.o;omega));have f:=Y (R.setCell (p:=(c,k)) (by show v<=c;have:=J.o;omega) (Za a));have N3:=Y (show ∀i,i<2*(k+1)->0<=gB (tx V) i from λi T=>by
      by_cases N:i<2*k
      ·exact hN i N
      ·by_cases N:i=2*k
       ·rw[N,HA];omega
       ·rw[show i=2*k+1 by omega,Q];omega)
     clear ad ab hx x1 x2 hd;go_wp2;exact⟨⟨k+1,by omega,by go_num,K3,j,f,N3⟩,by simp[intOf];omega⟩
   ·obtain rfl:k=8:=by omega
    have aj:¬((8:Nat):Int)<8:=by omega
    obtain⟨D,hD⟩:∃D:B8,H_ (D=bTo (tx V) 16):=⟨_,rfl⟩;have n:=Y (show eo (tx V)=0/\d=D by
     have ai:∀ah∈tx V,0<=hx ah:=λah hc=>by
      have⟨i,T⟩:=TN.1 hc;have h9:=hN i (by have:=(OI.1 T).1;rw[<-HL] at this;omega);unfold gB at h9
      rwa [Oy,T] at h9
     have:blk (tx V)=D:=by unfold blk;rw[UY ⟨by rw[<-HL];omega,ai⟩,hD]
     rw[hd];simp[eo,fG,this])
    have af:=Y F.out;rw[show 2*8=16 from rfl,<-hD] at af;have rz:=h.frozen;have⟨r0,r1,r2,r3,r4,r5,r6,r7⟩:=Bx.eight (x:=zB) h;have⟨f0,f1,f2,f3,f4,f5,f6,f7⟩:=Bx.eight af;have ao:=J.1;clear hd;go_wp2;change bodyPost prog Tryz.f41 _ _ _ (aV wr v 0 D);have j:=Y (kh h D);have f:=Y (bP R (OJ v) 0 D);have⟨H,am⟩:=ZX (aV wr v 0 D);rw[<-am] at j f ⊢;have⟨A,t,y,u,q,o,m,r⟩:=Bx.eight j;exact UM (by simp[results,results41,go_sem,A,t,y,u,q,o,m,r];rfl) rfl ⟨by rw[n.1,n.2];rfl,f⟩
 ·have he:blk (tx V)=none:=by unfold blk;rw[UX (λK=>h1 (by omega))]
  have hE:H_ (eo (tx V)=3/\d=zB):=Y (by rw[hd];simp[eo,fG,he]);have h2:¬(V.size:Int)=16:=by omega
  clear h1 he P hd;rw[hE.1,hE.2];have rz:=C.frozen;have⟨r0,r1,r2,r3,r4,r5,r6,r7⟩:=Bx.eight (x:=zB) C;have⟨f0,f1,f2,f3,f4,f5,f6,f7⟩:=Bx.eight (x:=zB) K1;have ao:=J.1;go_enter func41,ntmps41;go_upto_region 1 with fail;rw[<-G];go_upto_region 2 with fail;rw[<-B,<-I];go_wp2;change bodyPost prog Tryz.f41 _ _ _ (aV E v 0 zB);have R2:=Y (kh C zB);have B2:=Y (bP B1 (OJ v) 0 zB);have⟨w2,ak⟩:=ZX (aV E v 0 zB);rw[<-ak] at R2 B2 ⊢;have⟨A,t,y,u,q,o,m,r⟩:=Bx.eight (x:=zB) R2;exact UM (by simp[results,results41,go_sem,A,t,y,u,q,o,m,r]) rfl ⟨rfl,B2⟩
theorem sU{w:W_}(a:O.guard=none)(r:O.op=Op.call {callee:=Callee.builtin Builtin.append,args:=#[L,I],argTypes:=#[26,26]})(l:Tx)(i:w.ownsRow n 5 1 (N.eval L) l.length (Lib.byteCells l))(A:N.eval I=(w,2,2))(Q:l.length<=1000000)(J:n<=w)(p:∀c d b,b.ownsRow n 5 1 (.slice (some c) (l.length+2) d) (l++[U,D]).length (Lib.byteCells (l++[U,D]))->w.grownBy b (N.eval L).ownBlock->H (N.put O.dst (.slice (some c) (l.length+2) d)) b):
 if Region.wanted O (yielded P N.tmps)=true then Oper.wp prog O N (w.alloc (.cells #[Za (U.toNat:Int),Za (D.toNat:Int)] 5)) H M else G:=by
 have F:Region.wanted O (yielded P N.tmps)=true:=by simp[Region.wanted,a]
 rw[UY F];have⟨s,B,t,h,E⟩:=info_parts ru;have q:=Bx.new w #[Za (U.toNat:Int),Za (D.toNat:Int)] 5;refine wp_append_own _ L I 26 r n 5 s _ 1 1 Tryz.underlying26 B t h E rfl (by decide) (N.eval L) l.length _ rfl (World.ownsRow.alloc i _) ⟨w,0,none⟩ 2 2 [Za (U.toNat:Int),Za (D.toNat:Int)] A rfl (λx u z=>by
  rw[GT,m9,q.cell x];simpa using z) (by intro u f;simp at f;rcases f with rfl|rfl<;>rfl) (by unfold maxLen;omega) (by omega) (by simp;omega) ?_
 intro o b e a _;have C:w.grownBy b (N.eval L).ownBlock:=⟨a.os,a.tape,a.output,by have:=a.size;simp at this;omega,λk v y=>(a.block k (by simp;omega) y).trans (pi w _ k v)⟩;have j:b.ownsRow n 5 1 o (l++[U,D]).length (Lib.byteCells (l++[U,D])):=by
  rw[OC,show Lib.byteCells (l++[U,D])=Lib.byteCells l++[.int .u8 (U.toNat:Int),.int .u8 (D.toNat:Int)] by simp[Lib.byteCells]];exact e
 rcases e.2 with ⟨_,m⟩|⟨g,K,S,rfl,R,_⟩
 ·simp at m
 ·exact p _ _ b j C
theorem Mx.Dx(b:B8)(k:Nat)(z:Int)(h:b.list[k]?=z):(b.list.take (k+1)).flatMap ix=(b.list.take k).flatMap ix++ix z:=by
 rw[up,h,wt];simp
theorem dgs(k:Nat)(a:k<16)(q:IntKind)(w:W_):(Instr.index 9 (.string ⟨#[48,49,50,51,52,53,54,55,56,57,97,98,99,100,101,102]⟩) (.int q (k:Int))).run prog w=.ok (Za ((dg.getD k 0).toNat:Int)) w:=by
 rw[run_index_string w 9 _ q k Tryz.underlying9,dif_pos ⟨by omega,by show(k:Int)<16;omega⟩];congr 3;have h:k<dg.length:=a;rw[Oy,Ox h];rfl
theorem Ig:∃C:Array V_,(∀w:W_,(Instr.makeSlice 26 (Zb 0) (Zb 16)).run prog w=.ok (w,0,16) (w.alloc (.cells C 5)))/\
 H_ (∀(w:W_) (a:Nat),a<=w->(w.alloc (.cells C 5)).ownsRow a 5 1 (w,0,16) 0 []):=by
 have⟨e,c,f,b,i⟩:=info_parts ru;refine⟨madeCells #[Value.int .u8 0] (16*1),λw=>?_,λw a d=>?_⟩
 ·have h:=run_makeSlice (P:=prog) w 26 5 e _ Tryz.underlying26 c f .i64 .i64 (0:Int) (16:Int) (by omega) (by omega) (by rw[b];simp) (by rw[i];omega) (by omega);rw[b] at h;simpa[Value.cells] using h
 ·exact TL w _ 16 d (by unfold maxLen;omega) (UW _ _)
theorem Ng(h0:0<=z)(h1:z<=255):bits .and .u8 z 15=((z.toNat%16:Nat):Int):=by
 have a:∀v:Fin 256,bits .and .u8 (v.1:Int) 15=((v.1%16:Nat):Int):=by decide
 have h:=a ⟨z.toNat,by omega⟩;simp only[Int.toNat_of_nonneg h0] at h;exact h
theorem B8.LJ(b:B8)(k:Nat)(a:k<8):∃z,b.list[k]?=some z/\∀w:W_,(Instr.index 65 b (Zb (k:Int))).run prog w=.ok (Za z) w:=by
 match k,a with
 |0,_=>exact⟨b.z0,rfl,λw=>by kernel_rfl⟩
 |1,_=>exact⟨b.z1,rfl,λw=>by kernel_rfl⟩
 |2,_=>exact⟨b.z2,rfl,λw=>by kernel_rfl⟩
 |3,_=>exact⟨b.z3,rfl,λw=>by kernel_rfl⟩
 |4,_=>exact⟨b.z4,rfl,λw=>by kernel_rfl⟩
 |5,_=>exact⟨b.z5,rfl,λw=>by kernel_rfl⟩
 |6,_=>exact⟨b.z6,rfl,λw=>by kernel_rfl⟩
 |7,_=>exact⟨b.z7,rfl,λw=>by kernel_rfl⟩
theorem vp(h:by8 d){k:Nat}(b:d.list[k]?=z):0<=z/\z<=255:=by
 have a:=OR b;unfold by8 at h;simp only[B8.list,ro,Um,or_false] at a;rcases a with rfl|rfl|rfl|rfl|rfl|rfl|rfl|rfl<;>simp[h]
theorem sZ(O:by8 d)(w:W_):
 C_ prog 49 #[d] w λe w'=>e=Zv (.string ⟨(fp d).toArray⟩)/\H_ (OS w w'):=by
 have⟨aj,hC,HC⟩:=Ig;have⟨h,y⟩:=ZX (w.alloc (.cells d 65));have p:H_ (Bx h w d.arr 65):=(by rw[y];exact Bx.new w _ _);have B0:=beA y;have⟨N,u⟩:=ZX (h.alloc (.cells aj 5));have⟨g,q⟩:=ZX h.heap.size;have W:H_ (N.ownsRow g 5 1 (g,0,16) 0 []):=(by rw[u,q];exact HC h _ (OJ _));have F:=beA u;have B1:=Y (B0.t F);have R1:=Y (p.later F p.lt);have G:H_ (w<g/\g<=N):=(by rw[q];exact⟨p.lt,F.size⟩);have HB:=Y O;have⟨r0,r1,r2,r3,r4,r5,r6,r7⟩:=Bx.eight R1;clear O;go_enter func49,ntmps49;go_upto_region 1 with fail;rw[<-y];go_upto_region 2 with fail;rw[<-u,<-q];clear hC;go_wp2;clear r0 r1 r2 r3 r4 r5 r6 r7;go_loopw [3,8] (λae C wr=>∃(k:Nat) (c:A_) (f:Nat),k<=8/\C=Zb (k:Int)/\ae=(c,2*k,f)/\H_ (wr.ownsRow g 5 1 (c,2*k,f) ((d.list.take k).flatMap ix).length (Lib.byteCells ((d.list.take k).flatMap ix)))/\H_ (OS w wr)/\H_ (g<=wr)) (λ_ C _=>8-(intOf C).toNat)
 case atStart=>exact⟨0,⟨g,0,none⟩,16,by omega,rfl,rfl,W,B1,Y G.2⟩
 case round=>
  obtain⟨k,c,f,hk,rfl,rfl,r,B,H⟩:=hrel;by_cases ah:k<8
  ·have af:(k:Int)<8:=by omega
   have⟨z,s,ak⟩:=d.LJ k ah;have HZ:=Y s;have x:=vp HB s;have⟨A,o⟩:=ZX (z.toNat/16);have⟨E,v⟩:=ZX (z.toNat%16);have e1:z/16=A:=by have:=o.o;omega
   have Q:bits .and .u8 z 15=E:=by rw[v];exact Ng x.1 x.2
   have x1:=λw=>dgs A (by have:=o.o;omega) .u8 w
   have X:=λw=>dgs E (by have:=v.o;omega) .u8 w
   obtain⟨j,hc⟩:∃j:UInt8,H_ (j=dg.getD A 0):=⟨_,rfl⟩;obtain⟨i,hd⟩:∃i:UInt8,H_ (i=dg.getD E 0):=⟨_,rfl⟩;rw[<-hc] at x1;rw[<-hd] at X;obtain⟨l,M⟩:∃l:Tx,H_ (l=(d.list.take k).flatMap ix):=⟨_,rfl⟩;have HE:=Y (show(d.list.take (k+1)).flatMap ix=l++[j,i] by rw[Dx d k z HZ,<-M,hc,hd,o,v];rfl);have a:=Y r;rw[<-M] at a;have m:=Y (show l.length=2*k from by
    have h1:=a.2;rcases h1 with ⟨b,h2⟩|⟨J,ag,ab,b,_⟩
    ·cases b
    ·injection b with _ e _;exact e.symm)
   clear s x r;go_wp2_with fail;go_region_law (refine sU (w:=wr.drew) rfl (L:=.tmp 11) (I:=.tmp 18) rfl (n:=g) l ?o1 (U:=j) (D:=i) ?o2 ?o3 ?o4 ?_;(case o1=>exact a);(case o2=>rfl);(case o3=>have:=m.o;omega);(case o4=>exact H);intro R S V K t);all_goals
    have O7:=Y (show V.ownsRow g 5 1 (R,2*(k+1),S) ((d.list.take (k+1)).flatMap ix).length (Lib.byteCells ((d.list.take (k+1)).flatMap ix)) by
     rw[HE,show 2*(k+1)=l.length+2 by rw[m];omega];exact K)
    have b7:=Y ((ce w wr.drew).grown t B.size (λZ hi=>by have h1:=(World.ownsRow.lt a Z hi).1;have h2:=G.1;omega));have B7:=Y (B.drew.trans b7);have S7:H_ (g<=V):=OP H t.size;rw[show l.length+2=2*(k+1) by rw[m];omega];clear K t;go_wp2;go_roundw
    case rel=>exact⟨k+1,R,S,by omega,by go_num,rfl,O7,B7,S7⟩
    case measure=>simp[intOf];omega
  ·obtain rfl:k=8:=by omega
   have af:¬((8:Nat):Int)<8:=by omega
   have a:=Y r;rw[show(d.list.take 8).flatMap ix=fp d from rfl] at a;have al:(convert 26 9 (c,2*8,f)).run prog wr=.ok (.string ⟨(fp d).toArray⟩) wr:=by
    have ai:=run_convert_bytes_back (P:=prog) wr 26 9 5 c f (fp d) Tryz.underlying26 Tryz.underlying5 Tryz.underlying9 (λT hj=>by
     rcases a.2 with ⟨b,_⟩|⟨J,ag,ab,b,_⟩
     ·cases b
     ·injection b with e _ _
      have Q:=OG e;subst Q;have:=a.cells (g:=J) rfl T (Za ((fp d)[T].toNat:Int)) (by simp[Lib.byteCells,Ue hj]);simpa[Addr.add] using this)
    exact ai
   go_wp2;go_ret;exact⟨rfl,B⟩
theorem Nj(b:u=(v.alloc (.cells #[Za (U.toNat:Int),Za (D.toNat:Int)] 5)).drew):(convert 26 9 (v,2,2)).run prog u=.ok (.string ⟨#[U,D]⟩) u:=
 run_convert_bytes_back (P:=prog) _ 26 9 5 ⟨v,0,none⟩ 2 [U,D] Tryz.underlying26 Tryz.underlying5 Tryz.underlying9 (λj c=>by
  have a:=Bx.new v #[Za (U.toNat:Int),Za (D.toNat:Int)] 5;rw[b,World.cell?_drew,GT,m9,a.cell j];have:j=0\/j=1:=by simp at c;omega
  rcases this with rfl|rfl<;>rfl)
theorem xu(r:by8 d)(w:W_):
 C_ prog 43 #[d] w λH E=>H=Zv (.string ⟨(fp d).toArray⟩)/\H_ (OS w E):=by
 have⟨x,m⟩:=ZX (w.alloc (.cells d 65));have G:H_ (Bx x w d.arr 65):=(by rw[m];exact Bx.new w _ _);have K:=beA m;have y:=Y r;clear r;go_enter func43,ntmps43;go_upto_region 1 with fail;rw[<-m];go_wp2;go_loopw [3,4] (λv t wr=>∃(k:Nat),k<=8/\t=Zb (k:Int)/\v=.string ⟨((d.list.take k).flatMap ix).toArray⟩/\H_ (Bx wr w d.arr 65)/\H_ (OS w wr)/\H_ (((d.list.take k).flatMap ix).length=2*k)) (λ_ t _=>8-(intOf t).toNat)
 case atStart=>exact⟨0,by omega,rfl,rfl,G,K,Y rfl⟩
 case round=>
  obtain⟨k,R,rfl,rfl,h,u,o⟩:=hrel;by_cases N:k<8
  ·have I:(k:Int)<8:=by omega
   have⟨z,f,_⟩:=d.LJ k N;have M:=Y f;have j:=vp y f;have T:wr.cell? (w,k)=Za z:=by
    have h1:=h.cell k;have h2:d.arr[k]?=(d.list.map (Value.int .u8))[k]?:=by rw[<-OB];rfl
    rw[h1,h2,i8,f];rfl
   have⟨p,e⟩:=ZX (z.toNat/16);have⟨q,i⟩:=ZX (z.toNat%16);have F:z/16=p:=by have:=e.o;omega
   have L:z%16=q:=by have:=i.o;omega
   have S:z.tdiv 16=p:=by rw[Int.tdiv_eq_ediv_of_nonneg j.1];exact F
   have Q:z.tmod 16=q:=by rw[TZ j.1];exact L
   have P:IntKind.u8.wrap (p:Int)=p:=by rw[UI];have:=e.o;omega
   have J:=λw=>dgs p (by have:=e.o;omega) .u8 w
   have B:=λw=>dgs q (by have:=i.o;omega) .u8 w
   obtain⟨c,hc⟩:∃c:UInt8,H_ (c=dg.getD p 0):=⟨_,rfl⟩;obtain⟨a,hd⟩:∃a:UInt8,H_ (a=dg.getD q 0):=⟨_,rfl⟩;rw[<-hc] at J;rw[<-hd] at B;obtain⟨l,b⟩:∃l:Tx,H_ (l=(d.list.take k).flatMap ix):=⟨_,rfl⟩;have s:=Y (show(d.list.take (k+1)).flatMap ix=l++[c,a] by rw[Dx d k z M,<-b,hc,hd,e,i];rfl);have V:=Nj (U:=c) (D:=a) (v:=wr) rfl;have hs:¬9223372036854775807<l.length+2:=by rw[b,o];omega
   have O:=Y (show(l++[c,a]).length=2*(k+1) by rw[OC,b,o];simp;omega);have n:=Y (show OS wr (wr.alloc (.cells #[Za (c.toNat:Int),Za (a.toNat:Int)] 5)).drew from(af).drew);have A:=Y (h.later n h.lt);have C:=Y (u.t n);rw[<-b];clear f j;go_wp2_with fail;go_region;all_goals
    go_wp2;go_roundw
    case rel=>exact⟨k+1,by omega,by go_num,by rw[s,<-fa],A,C,by rw[s];exact O⟩
    case measure=>simp[intOf];omega
  ·obtain rfl:k=8:=by omega
   have I:¬((8:Nat):Int)<8:=by omega
   go_wp2;go_ret;exact⟨rfl,u⟩
section
variable {g:Nat}{w:W_}
structure InR (n:Int):Prop where
 lo:-9223372036854775808<=n
 hi:n<=9223372036854775807
theorem Ms{c:Int}(hg:g<w)(hB:n=w)(hr:InR x)(h:v.cell? g=Zb y/\v.cell? (g,1)=Zb z/\v.cell? (g,2)=Zb c/\Gv v/\Below n w v):
 C_ prog 52 #[x] v λe d=>e=Zv (.string ⟨(Lib.itoa x).toArray⟩)/\(d.cell? g=Zb y/\d.cell? (g,1)=Zb z/\d.cell? (g,2)=Zb c/\Gv d/\Below n w d):=
 (mG h.2.2.2.1 hr.lo hr.hi).mono (by
   rintro e d ⟨rfl,D⟩;have⟨h0,h1,h2,h3,h4⟩:=h;have hl:g<v:=OE hg h4.size;exact⟨rfl,(D.cell (p:=g) hl).trans h0,(D.cell (p:=(g,1)) hl).trans h1,(D.cell (p:=(g,2)) hl).trans h2,h3.later D h3.2.2.2,h4.trans (D.mono (by rw[hB];exact h4.size))⟩)
theorem mF(b:B8):(fp b).length=16:=rfl
theorem zm:(prog.info? 9).map (λi=>(i.zero,i.size,i.bytes))=some (some (.string ByteArray.empty),1,16):=by kernel_rfl
theorem EU(d:g<w)(e:n=w)(h:v.cell? g=Zb x/\v.cell? (g,1)=Zb y/\v.cell? (g,2)=Zb z/\Gv v/\Below n w v):
 (v.alloc t).cell? g=Zb x/\(v.alloc t).cell? (g,1)=Zb y/\(v.alloc t).cell? (g,2)=Zb z/\Gv (v.alloc t)/\Below n w (v.alloc t):=by
 have⟨h0,h1,h2,c,b⟩:=h;have a:g<v:=OE d b.size;have D:=af (v:=v) (P:=t);exact⟨(D.cell (p:=g) a).trans h0,(D.cell (p:=(g,1)) a).trans h1,(D.cell (p:=(g,2)) a).trans h2,c.later D c.2.2.2,b.trans (D.mono (by rw[e];exact b.size))⟩
theorem Fg(z:Gv v)(ha:InR s.at_)(hk:InR s.kind)(hf:InR s.from_)(hd:by8 s.d):
 C_ prog 57 #[.agg s.arr] v λf w'=>f=Zv (.string ⟨(pkT s).toArray⟩)/\H_ (OS v w'):=by
 have⟨c,h,d,i⟩:=s;simp only[Pk.arr] at *;obtain⟨W,K⟩:=ZX (v.alloc (.cells (Zp c h d i) 109));have r:H_ (Bx W v _ _):=(by rw[K];exact Bx.new v _ _);have C:=beA K;have S:v<W.heap.size:=r.lt;have c0:=r.cell 0;have c1:=r.cell 1;have c2:=r.cell 2;simp only[OB,OA,Oz] at c0 c1 c2;have am:Gv W:=z.later C z.2.2.2;have I:Below (W) W W:=Below.refl _ _;obtain⟨N,e⟩:∃N:Nat,N=W:=⟨_,rfl⟩;rw[<-e] at I;have HD:=Y hd;clear hd;go_enter func57,ntmps57;go_upto_region 1 with fail;rw[<-K];go_region_held3 (λu=>u.cell? v=Zb c/\u.cell? (v,1)=Zb h/\u.cell? (v,2)=Zb d/\Gv u/\Below N W u)
  (first|with_reducible assumption|with_reducible exact EU S e t|exact⟨c0,c1,c2,am,I.drew⟩)
  (first|(go_at_call 52;(with_reducible refine(Ms S e (by assumption) (by assumption)).mono ?_);rintro f y ⟨rfl,t⟩))
 all_goals
  have⟨p,E⟩:=ZX (y.alloc (.cells #[.string ⟨(Lib.itoa c).toArray⟩,.string ⟨(Lib.itoa h).toArray⟩,.string ⟨(Lib.itoa d).toArray⟩] 9));have⟨q,G⟩:=ZX y.heap.size;rw[<-E,<-G];have R:=beA E;have B:H_ (Bx p q _ _):=(by rw[E,G];exact Bx.new y _ _);have D:=Y (show OS v p by
   have h9:=C.trans ((show Below (W) W y by rw[<-e];exact t.2.2.2.2).mono C.size);exact h9.t R)
  have X:=Y (r.later ((show Below (W) W y by rw[<-e];exact t.2.2.2.2).trans (R.mono (by rw[<-e];exact e▸t.2.2.2.2.size))) r.lt);have ao:H_ (v<=y.heap.size):=(OP C.size (by rw[<-e];exact e▸t.2.2.2.2.size));have GY:=Y (z.later D z.2.2.2);have Q:=Lib.itoa_length_le c ha.lo ha.hi;have lb:=Lib.itoa_length_le h hk.lo hk.hi;have lc:=Lib.itoa_length_le d hf.lo hf.hi;have LL:=Y (TH Q (TH lb lc));clear c0 c1 c2 t I e Q lb lc;have k1:=X.cell 1;simp only[OB,OA,Oz] at k1;by_cases T:h=3
  ·subst T;have H:=Y (show pkT ⟨c,3,d,i⟩=Lib.join [Lib.itoa c,Lib.itoa 3,Lib.itoa d,fp i] [32] by unfold pkT;rw[UY rfl];rfl);have V:=X.cell 3;have k4:=X.cell 4;have k5:=X.cell 5;have k6:=X.cell 6;have Z:=X.cell 7;have O:=X.cell 8;have k9:=X.cell 9;have af:=X.cell 10;simp only[OB,OA,Oz] at V k4 k5 k6 Z O k9 af;have P:=Y (sZ HD p);have⟨i0,hi,ak,ah,aj⟩:=info_parts zm;have OY:=Y (show p.ownsRow q 9 1 (q,3,3) 3 [.string ⟨(Lib.itoa c).toArray⟩,.string ⟨(Lib.itoa 3).toArray⟩,.string ⟨(Lib.itoa d).toArray⟩] from
    ⟨rfl,.inr ⟨q,3,_,rfl,OJ _,B,OJ _,by unfold maxLen;omega,rfl,rfl⟩⟩)
   have al:q<p:=B.lt;go_wp2_with fail;refine P.mono ?_;clear P;rintro f A ⟨rfl,m⟩;have OZ:=Y (aW OY m);have ap:q<=A:=TP (OE al m.size);go_wp2_with (at_builtin;refine UN _ rfl _ _ 45 rfl q 9 i0 _ 1 16 Tryz.underlying45 hi ak ah aj rfl (by decide) _ _ _ rfl (OZ.alloc _) ⟨A,0,none⟩ 1 1 [.string ⟨(fp i).toArray⟩] rfl rfl ?c1 ?c2 ?c3 ?c4 ?c5 ?_);case c1=>
    intro j ai o
    match j,o with
    |0,o=>simp at o;subst o;simp[Addr.add]
   case c2=>intro ai U;simp at U;subst U;rfl
   case c3=>unfold maxLen;omega
   case c4=>omega
   case c5=>simp;omega
   intro v' F ad ab _;have J:=Y (D.t m);have S2:=Y (show OS v F from(J.alloc J.size _).grown ab (by have:=J.size;simp;omega) (λaq f=>by
    cases f
    have h1:=D.size;have h2:v<=q:=by rw[G];exact ao
    exact h2))
   obtain⟨x,k,l,rfl,hb,M,ag,_,_,ae⟩:∃x k l,v'=.slice (some ⟨x,0,none⟩) 4 k/\q<=x/\F.heap[x]?=some (.cells l 9 (0,0))/\4<=k/\k<=maxLen/\l.size=k*1/\l.toList.take 4=[.string ⟨(Lib.itoa c).toArray⟩,.string ⟨(Lib.itoa 3).toArray⟩,.string ⟨(Lib.itoa d).toArray⟩,.string ⟨(fp i).toArray⟩]:=by
    rcases ad.2 with ⟨_,h0⟩|⟨x,k,l,hv,an⟩
    ·simp at h0
    ·exact⟨x,k,l,hv,an⟩
   have L:=Y (pS (a:=some ⟨x,0,none⟩) (n:=4) (g:=k) (X:=[⟨(Lib.itoa c).toArray⟩,⟨(Lib.itoa 3).toArray⟩,⟨(Lib.itoa d).toArray⟩,⟨(fp i).toArray⟩]) ⟨#[32]⟩ F rfl ag (λ_=>⟨x,0,rfl,(Array.getElem?_eq_some_iff.1 M).1,λj u b=>by
    have o:j<4:=(OI.1 b).1;have f:l[j]?=some (.string u):=by
     rw[<-Array.getElem?_toList,<-List.getElem?_take_of_lt o,ae]
     match j,b with
     | 0, b => cases b; rfl
     | 1, b => cases b; rfl
     | 2, b => cases b; rfl
     | 3, b => cases b; rfl
    rw[Nat.zero_add];simp[World.cell?,M,f]⟩) (by omega) (by have:=LL.o;have:=mF i;simp[Lib.join,List.intercalate];omega))
   clear ad ab M ae k1 V k4 k5 k6 Z O k9 af;go_wp2_with fail;refine L.mono ?_;rintro f A ⟨rfl,m⟩;go_wp2;go_ret;exact⟨by rw[H];rfl,(S2.t m)⟩
  ·have H:=Y (show pkT ⟨c,h,d,i⟩=Lib.join [Lib.itoa c,Lib.itoa h,Lib.itoa d] [32] by unfold pkT;rw[UX T];rfl);have L:=Y (pS (a:=some ⟨q,0,none⟩) (n:=3) (g:=3) (X:=[⟨(Lib.itoa c).toArray⟩,⟨(Lib.itoa h).toArray⟩,⟨(Lib.itoa d).toArray⟩]) ⟨#[32]⟩ p rfl (OJ _) (fun _=>⟨q,0,rfl,B.o.lt,fun j u b=>by
    rw[Nat.zero_add,B.o.cell j]
    match j,b with
    | 0, b => cases b; rfl
    | 1, b => cases b; rfl
    | 2, b => cases b; rfl⟩) (by omega) (by have := LL.o; simp [Lib.join, List.intercalate]; omega))
   go_wp2_with fail;refine L.mono ?_;rintro f A ⟨rfl,m⟩;go_wp2;go_ret;exact⟨by rw[H];rfl,(D.t m)⟩
end
def jb(w:W_)(base:Nat)(v:V_)(l:List ByteArray):Prop:=w.ownsRow base 9 1 v l.length (l.map Value.string)
theorem gX{rest:List Oper}(F:O.guard=none)(r:O.op=.call {callee:=.builtin .append,args:=#[L,I],argTypes:=#[45,45]})(j:jb v n (N.eval L) o)(y:ByteArray)(B:N.eval I=(v,1,1))(J:o.length<=1000000)(G:n<=v)(q:∀d f a,jb a n (.slice (some d) (o.length+1) f) (o++[y])->v.grownBy a (N.eval L).ownBlock->wpList prog P M rest (N.put O.dst (.slice (some d) (o.length+1) f)) a):
 wpList prog P M (O::rest) N (v.alloc (.cells #[.string y] 9)):=by
 have⟨s,C,t,i,E⟩:=info_parts zm;refine UN _ F L I 45 r n 9 s _ 1 16 Tryz.underlying45 C t i E rfl (by decide) _ _ _ rfl (World.ownsRow.alloc j _) ⟨v,0,none⟩ 1 1 [.string y] B rfl ?c1 ?c2 ?c3 ?c4 ?c5 ?_;case c1=>
  intro z u c
  match z,c with
  |0,c=>simp at c;subst c;simp[Addr.add]
 case c2=>intro u h;simp at h;subst h;rfl
 case c3=>unfold maxLen;omega
 case c4=>omega
 case c5=>simp;omega
 intro m a e b _;have D:v.grownBy a (N.eval L).ownBlock:=⟨b.os,b.tape,b.output,by have:=b.size;simp at this;omega,λk x A=>(b.block k (by simp;omega) A).trans (pi v _ k x)⟩;have p:jb a n m (o++[y]):=by unfold jb;rw[OC,le];exact e
 rcases e.2 with ⟨_,l⟩|⟨g,H,K,rfl,_⟩
 ·simp at l
 ·exact q _ _ a p D
def Mx.pcs(s:Tx)(F I:Nat):Tx:=(s.drop F).take (I-F)
theorem Mx.IC{s:Tx}(b:n<=k)(a:s[k]?=U):pcs s n (k+1)=pcs s n k++[U]:=by
 unfold pcs;rw[show k+1-n=(k-n)+1 by omega,up,Tt,show n+(k-n)=k by omega,a];rfl
theorem Mx.Ml{s:Tx}{c:UInt8}(a:s[n]?=U):cut c (s.drop n)=if U=c then []::cut c (s.drop (n+1)) else jE [U] (cut c (s.drop (n+1))):=by
 have⟨h1,h2⟩:=OI.1 a;rw[Fn h1,h2,cut]
theorem zb(c:UInt8)(w:W_)(hs:V.size<=5000):
 C_ prog 13 #[.string V,Za (c.toNat:Int)] w λf B=>∃m h e,f=Zv (.slice (some h) m.length e)/\H_ (m.map tx=cut c (tx V))/\H_ (jb B w (.slice (some h) m.length e) m)/\H_ (OS w B):=by
 have z:V.size=(tx V).length:=Lib.size_eq V;have K:=Y z;have b:=Y hs;clear z;have A:H_ (∀F I,tx (V.extract F I)=pcs (tx V) F I):=λF I=>Lib.extract_data V F I;go_enter func13,ntmps13;go_wp2;go_loopw [5,6,7] (λG M x wr=>∃(F I:Nat) (a:List ByteArray) (p:Option A_) (e:Nat),F<=I/\I<=V.size/\M=Zb (F:Int)/\x=Zb (I:Int)/\G=.slice p a.length e/\H_ (a.length<=I)/\H_ (jb wr w (.slice p a.length e) a)/\H_ (OS w wr)/\H_ (a.map tx++jE (pcs (tx V) F I) (cut c ((tx V).drop I))=cut c (tx V))) (λ_ _ x _=>V.size-(intOf x).toNat)
 case atStart=>exact⟨0,0,[],none,0,by omega,by omega,rfl,rfl,rfl,Y (by simp),(t8 _ _ _ _),(ce _ _),(vy (lP _ _))⟩
 case round=>
  obtain⟨F,I,a,p,e,E,O,rfl,rfl,rfl,q,k,d,y⟩:=hrel;have P:(F:Int)<=I:=by omega
  have Q:(I:Int)<=V.size:=by omega
  by_cases J:I<V.size
  ·have H:(I:Int)<V.size:=by omega
   have r:=ie J;have L:=Y (IC E r);have C:=Y (Ml (c:=c) r);by_cases hc:V[I]=c
   ·have N:(V[I].toNat:Int)=c.toNat:=by rw[hc]
    have j:=Y (show(a++[V.extract F I]).map tx++jE (pcs (tx V) (I+1) (I+1)) (cut c ((tx V).drop (I+1)))=cut c (tx V) by
     rw[<-y,C,UY hc,le,i7,rx,A,show pcs (tx V) (I+1) (I+1)=[] by simp[pcs],vy (lP _ _)];simp[jE])
    clear hc r;go_wp2_with (at_builtin;refine gX rfl rfl k.o (V.extract F I) rfl (by have:=q.o;have:=b.o;omega) d.o.size ?_);intro h u D i l;have s:=Y i;have t:=Y (d.grown l d.size (λv f=>(World.ownsRow.lt k v f).1));clear i l;go_wp2;go_roundw
    case rel=>exact⟨I+1,I+1,a++[V.extract F I],some h,u,by omega,by omega,by have:=b.o;go_num,by have:=b.o;go_num,by rw[OC];rfl,Y (by have:=q.o;simp;omega),by rw[OC];exact s,t,j⟩
    case measure=>have:=b.o;simp[intOf];omega
   ·have N:¬(V[I].toNat:Int)=c.toNat:=λf=>hc (UInt8.toNat_inj.1 (by omega))
    have j:=Y (show a.map tx++jE (pcs (tx V) F (I+1)) (cut c ((tx V).drop (I+1)))=cut c (tx V) by
     rw[<-y,C,UX hc,L];simp[jE])
    clear hc r;go_wp2;go_roundw
    case rel=>exact⟨F,I+1,a,p,e,by omega,by omega,rfl,by have:=b.o;go_num,rfl,Y (by have:=q.o;omega),k,d,j⟩
    case measure=>have:=b.o;simp[intOf];omega
  ·obtain rfl:I=V.size:=by omega
   have H:¬((V.size:Nat):Int)<V.size:=by omega
   have j:=Y (show(a++[V.extract F V.size]).map tx=cut c (tx V) by
    rw[<-y,le,i7,rx,A,Pi (by rw[K];exact OJ _)];simp[jE,cut])
   go_wp2_with (at_builtin;refine gX rfl rfl k.o (V.extract F V.size) rfl (by have:=q.o;have:=b.o;omega) d.o.size ?_);intro h u D i l;have s:=Y i;have t:=Y (d.grown l d.size (λv f=>(World.ownsRow.lt k v f).1));clear i l;go_wp2;go_ret;exact⟨a++[V.extract F V.size],h,u,by rw[OC];rfl,j,by rw[OC];exact s,t⟩
structure Rp where
 e:Int
 d:B8
 hv:Nat
 sf:Nat
 bk:Nat
 q:Nat
 bl:List B8
def Rp.cs(n:Nat)(r:Rp):List V_:=[Zb r.e,Za r.d.z0,Za r.d.z1,Za r.d.z2,Za r.d.z3,Za r.d.z4,Za r.d.z5,Za r.d.z6,Za r.d.z7,Zb (r.hv:Int),Zb (r.sf:Int),Zb (r.bk:Int),(r.q,0,n,n)]
def jX(n:Nat)(l:List Rp):List V_:=l.flatMap (Rp.cs n)
theorem Dq(l:List Rp):(jX n l).length=l.length*13:=gd _ 13 (λ_=>rfl) l
theorem Tryz.info95:(prog.info? 95).map (λi=>(i.zero,i.size,i.bytes))=some (some (.agg Zo),13,64):=by kernel_rfl
def iG(w:W_)(g m n:Nat)(rs:List Rp):Prop:=
 ∃cur,Bx w g cur 95/\rs.length<=m/\cur.size=m*13/\cur.toList.take (rs.length*13)=jX n rs/\∀i v,cur[13*i]?≠some (.int .u8 v)
theorem iG.nby{c:List Rp}(h:iG v k m n c):Nby v k:=λo=>by
 have⟨e,a,_,_,_,b⟩:=h;refine⟨(13-o%13)%13,by omega,λd=>?_⟩;rw[a.cell,show o+(13-o%13)%13=13*((o+12)/13) by omega];exact b _ d
theorem iG.ext{T:Nat->Prop}{a:List Rp}(h:iG v k m n a)(d:Ex T v u)(c:¬T k):iG u k m n a:=by
 have⟨e,b,f⟩:=h;exact⟨e,Ex.bx d b c,f⟩
theorem wy(o:m<=1000):∃C:Array V_,(∀w:W_,(Instr.makeSlice 127 (Zb 0) (Zb (m:Int))).run prog w=.ok (w,0,m) (w.alloc (.cells C 95)))/\
 H_ (∀w:W_,iG (w.alloc (.cells C 95)) w m n []):=by
 have⟨j,d,k,a,l⟩:=info_parts Tryz.info95;refine⟨madeCells Zo (m*13),λw=>?_,λw=>⟨_,Bx.new w _ _,ol _,UW _ _,rfl,λi v e=>?_⟩⟩
 ·have h:=run_makeSlice (P:=prog) w 127 95 j _ Tryz.underlying127 d k .i64 .i64 (0:Int) (m:Int) (by omega) (by omega) (by rw[a];simp;omega) (by rw[l];omega) (by omega);rw[a] at h;simpa[Value.cells] using h
 ·have b:=(co.1 e).1;rw[UW] at b;unfold madeCells at e;rw[Array.getElem?_map,Array.getElem?_range,UY b] at e;have f:=OG e;have h0:(13*i)%13=0:=by omega
  have c:(Zo:Array V_)[(13*i)%13]! = Za v:=f;rw[h0] at c;cases c
theorem uK{a:List Rp}(F:iG v k m n a){h0:Nat}(x:Rp)(G:Bx v h0 (x.cs n).toArray 95)(B:a.length<m):
 ∃h,(Builtin.append_ #[127,127] K #[(k,a.length,m),(h0,1,1)]).run prog v=.ok (k,a.length+1,m) h/\iG h k m n (a++[x])/\v.grownBy h (some k):=by
 have⟨r,D,N,f,Q⟩:=info_parts Tryz.info95;have⟨c,q,hc,hs,H,p⟩:=F;have e:(x.cs n).length=13:=rfl;have A:(x.cs n).length=1*r.size:=by rw[f];rfl
 have M:∀j u,(x.cs n)[j]?=some u->v.cell? ((⟨h0,0,none⟩:A_).add j)=some u:=λj u I=>by
  rw[GT,m9,G.cell j];simpa using I
 have C:∀u∈x.cs n,u.oneCell'=true:=by
  intro u z;simp[Rp.cs] at z;rcases z with rfl|rfl|rfl|rfl|rfl|rfl|rfl|rfl|rfl|rfl|rfl|rfl|rfl<;>rfl
 have t:=_root_.Go.run_append_room (P:=prog) v 127 K 95 r Tryz.underlying127 D k a.length m c q ⟨h0,0,none⟩ 1 1 (x.cs n) A M C (by omega) (by rw[A,f,hs];omega);rw[f] at t;refine⟨_,t,⟨_,setRow_heap v k c _ _ _ q,by rw[OC];exact B,?_,?_,?_⟩,⟨rfl,rfl,rfl,by simp,λJ _ b=>setRow_other v k J _ (λo=>b (by simp[o]))⟩⟩
 ·simp only[EQ,OC,OM,ge,Array.length_toList,e];omega
 ·have E:jX n [x]=x.cs n:=by simp[jX]
  have s:jX n (a++[x])=jX n a++x.cs n:=by rw[jX,wt];exact congrArg _ E
  rw[s,H];have L:(jX n a++x.cs n).length=(a++[x]).length*13:=by rw[<-s,Dq]
  rw[<-L];exact UC
 ·intro i l o;have b:(c.toList.take (a.length*13)).length=a.length*13:=by have O:c.toList.length=m*13:=(Array.length_toList (xs:=c)).trans hs;rw[OM];omega
  have d:(c.toList.take (a.length*13)++x.cs n++c.toList.drop (a.length*13+(x.cs n).length))[13*i]?=Za l:=by simpa using o
  rcases Nat.lt_trichotomy i a.length with y|y|y
  ·rw[OO (by rw[OC,b];omega),OO (by omega),ul (by omega),GE] at d;exact p i l d
  ·rw[OO (by rw[OC,b,e];omega),ON (by omega),b,show 13*i-a.length*13=0 by omega] at d
   cases d
  ·rw[ON (by rw[OC,b,e];omega),OC,b,e,Tt,GE,show a.length*13+13+(13*i-(a.length*13+13))=13*i by omega] at d;exact p i l d
def RL(w:W_)(a:Option A_)(m n:Nat)(rs:List Rp):Prop:=
 rs.length=m/\(∀r∈rs,BL w (some ⟨r.q,0,none⟩) n r.bl)/\(0<m->∃b off,a=some ⟨b,off,none⟩/\b<w.heap.size/\∀i r,rs[i]?=some r->∀j u,(r.cs n)[j]?=some u->w.cell? ⟨b,off+i*13+j,none⟩=some u)
theorem iG.rl{l:List Rp}(m:iG v k l.length n l)(o:∀r∈l,BL v (some ⟨r.q,0,none⟩) n r.bl):RL v (some ⟨k,0,none⟩) l.length n l:=by
 have⟨q,b,_,hs,d,_⟩:=m;refine⟨rfl,o,λh0=>⟨k,0,rfl,b.lt,λi x a j u c=>?_⟩⟩;have f:j<13:=(OI.1 c).1;have p:=(OI.1 a).1;have h:=dJ (Rp.cs n) (λ_=>rfl) l i x a f;have e:(jX n l)[i*13+j]?=u:=h.trans c;rw[<-d,ul (by omega),GE] at e;rw[m9,b.cell];exact e
structure RpG (n:Nat) (ds:List De) (i:Nat) (r:Rp):Prop where
 x:∃x,ds[i]?=some x/\r.e=Mx.doE n x/\r.d=Mx.doD n (Mx.aC n (ds.take i)).2 x
 len:(Mx.aC n (ds.take (i+1))).1.length=r.hv+1
 bk:r.bk<=r.hv
 sf:r.sf<=r.bk
 bl:(Mx.aC n (ds.take (i+1))).1[r.bk]?=some r.bl
def pJ(n:Nat)(ds:List De)(rs:List Rp):Prop:=(∀i r,rs[i]?=some r->RpG n ds i r)/\(∀(i j:Nat)(r r':Rp),i<=j->rs[i]?=some r->rs[j]?=some r'->r.bk<=r'.bk)
theorem pJ.snoc{b:List Rp}{r:Rp}(h:pJ n Z b)(f:RpG n Z b.length r)(l:∀r'∈b,r'.bk<=r.bk):pJ n Z (b++[r]):=by
 have c:∀i y,(b++[r])[i]?=some y->b[i]?=some y\/(i=b.length/\y=r):=λi y a=>by
  by_cases k:i<b.length
  ·rw[OO k] at a;exact .inl a
  ·rw[ON (by omega)] at a;have h0:i-b.length=0:=by
    have:=(OI.1 a).1;simp at this;omega
   rw[h0] at a;exact .inr ⟨by omega,(OG a).symm⟩
 refine⟨λi y a=>?_,λi j y d e a m=>?_⟩
 ·rcases c i y a with h1|⟨rfl,rfl⟩
  ·exact h.1 i y h1
  ·exact f
 ·rcases c j d m with h1|⟨rfl,rfl⟩
  ·rcases c i y a with h2|⟨rfl,rfl⟩
   ·exact h.2 i j y d e h2 h1
   ·have:=(OI.1 h1).1;omega
  ·rcases c i y a with h2|⟨rfl,rfl⟩
   ·exact l y (OR h2)
   ·exact OJ _
section
variable {w:W_}
theorem PaS.NT(h:PaS (λ_=>False) A w k n c T l X W S R)(o1:Obj)(j:Nby (w.alloc o1) w):PaS (λx=>x=w.heap.size) (λx=>A x\/x=w.heap.size) (w.alloc o1) k n c T l X W S R:=by
 have⟨o,D,C,P,O,m,b,I⟩:=h;have d:=af (v:=w) (P:=o1);have f:Wd A (λx=>A x\/x=w.heap.size) w:=(Wd.refl A w).add (OJ _);have i:∀x,A x->x≠w.heap.size:=λx a e=>by have:=b.mu.lt x a;omega
 exact⟨o,D,C,P,O,m,⟨⟨λx a=>a.elim (λh=>(b.mu.later d).lt x h) (λe=>by rw[e,dl];omega),λx a=>a.elim ((b.mu.later d).no x) (λe=>by rw[e];exact j)⟩,
  (b.pr.wd f (λx a=>.inl (b.pr.sub x a))).later d,(b.ot.wd f (λx a=>.inl (b.ot.sub x a))).later d,(b.ln.wd f (λx a=>.inl (b.ln.sub x a))).later d,b.ab,b.ac,b.bc,
  λx a=>⟨.inr a,λh=>i x (b.pr.sub x h) a,λh=>i x (b.ot.sub x h) a,λh=>i x (b.ln.sub x h) a⟩⟩,I⟩
theorem PaS.inG{e:Nat→Prop}(h:PaS A f w k n c T l X W S R)(hx:Ex e w v)(hT:∀x,e x->A x)(hn:∀x,e x->Nby v x):PaS A f v k n c T l X W S R:=by
 have⟨a,D,C,P,O,b,d,I⟩:=h;have hs:∀x,e x->f x:=λx ht=>(d.gg x (hT x ht)).1
 exact⟨a,D,C,P,O,b,⟨⟨λx h=>OE (d.mu.lt x h) hx.size,λx h=>by
  by_cases ht:e x
  ·exact hn x ht
  ·exact(d.mu.no x h).same λ_=>hx.cell (d.mu.lt x h) ht⟩,
  d.pr.frame hx hs (λx ha ht=>(d.gg x (hT x ht)).2.1 ha),d.ot.frame hx hs (λx ha ht=>(d.gg x (hT x ht)).2.2.1 ha),d.ln.frame hx hs (λx ha ht=>(d.gg x (hT x ht)).2.2.2 ha),d.ab,d.ac,d.bc,d.gg⟩,I⟩
end
def StR(W0 wr:W_)(B n k g m:Nat)(ds:List De)(rs:List Rp)(p:Pf_)(o:Of_):Prop:=
 ∃S r ls,PaS (λx=>x=g) S wr B n (1+k) (aC n (ds.take k)).1 (aC n (ds.take k)).2 p o r ls/\(∀x,S x->W0.heap.size<=x)/\OS W0 wr/\pJ n ds rs/\(∀y∈rs,W0.heap.size<=y.q/\BLo S wr (some ⟨y.q,0,none⟩) n y.bl/\y.bk<=o.back)/\iG wr g m n rs
theorem StR.did{d:List Rp}(t:Z[k]?=some F)(h2:∀F,J F->u.heap.size<=F)(o:OS u r)(C:pJ n Z d)(a:∀y∈d,u<=y.q/\BLo J r (some ⟨y.q,0,none⟩) n y.bl/\y.bk<=W.back)(s:iG r j m n d)(A:OS r v)(hd:DoD (λF=>F=j) J v B c n (1+k+1) (doS (aC n (Z.take k)).1 (aC n (Z.take k)).2 F) (doN n (aC n (Z.take k)).1 (aC n (Z.take k)).2 F) W.back):∃i f,StR u B c n (k+1) j m Z d i f:=by
 have⟨G,i,f,E,D,x,z,q⟩:=hd;have e:=(Mv.below A).trans q;have l:=e.pL o.size h2;have p:Z.take (k+1)=Z.take k++[F]:=by rw[up,t];rfl
 refine⟨i,f,G,E,D,?_,l.2,o.trans l.1,C,λy b=>⟨(a y b).1,⟨((a y b).2.1.ext (e.ext.mono λ_ _ h=>h.1)).1,((a y b).2.1.wd e.wd).2⟩,OP (a y b).2.2 z⟩,s.ext e.ext (λh=>h.2 rfl)⟩;rw[p,iX];exact x
theorem StR.told{d:List Rp}(h:StR v u c n k j m Z d X W):(aC n (Z.take k)).1.length=X.ar+1/\X.safe<=W.back/\W.back<=X.ar/\∃b,(aC n (Z.take k)).1[W.back]?=some b:=by
 have⟨S,r,i,h1,_⟩:=h;have a:=h1.len;have⟨A,D,C,P,O,l,f,I⟩:=h1;have o:=I.bC.1.safe;have e:=I.bC.1.back;exact⟨a,by omega,by omega,_,Ox (by omega)⟩
theorem StR.rep{d:List Rp}(J:StR u v c n (k+1) j m Z d X W)(h:OS v r){y:Rp}(A:d.length=k)(F:RpG n Z k y)(s:y.bk=W.back)(G:v<=y.q)(hbl:BL r (some ⟨y.q,0,none⟩) n y.bl)(o:iG B j m n (d++[y]))(q:r.grownBy B (some j)):StR u B c n (k+1) j m Z (d++[y]) X W:=by
 have⟨S,E,I,h1,h2,p,H,b,Q⟩:=J;have f:(∀x,S x->x<v.heap.size)/\S j:=by
  have⟨R,M,N,P,O,K,l,T⟩:=h1;exact⟨l.mu.lt,(l.gg j rfl).1⟩
 have t:=Ex.one q;have i:Ex S r B:=t.mono λK _ e=>by rw[e];exact f.2
 have D:¬S y.q:=λhs=>by have:=f.1 _ hs;omega
 have L:OS u r:=p.t h;refine⟨S,E,I,(h1.later h).inG t (λx e=>e) (λx e=>by rw[e];exact o.nby),h2,aM L q (h2 j f.2),H.snoc (by rw[A];exact F) (λz a=>by rw[s];exact(b z a).2.2),λz a=>?_,o⟩;rcases ip.1 a with a|a
 ·exact⟨(b z a).1,((b z a).2.1.ext (Ex.below h)).ext i,(b z a).2.2⟩
 ·obtain rfl:=i5.1 a;exact⟨OP p.size G,BLo.ext ⟨hbl,λ_ X C=>by cases C;exact D⟩ i,by rw[s];exact OJ _⟩
theorem Lf(h:eI x m≠0):
 C_ prog 69 #[x,(a,m,c)] v λe d=>e=Zr #[Zs,Zf (eI x m)]/\d=v:=by
 have i:=Y h;have⟨E,b⟩:=ZX (eI x m);rw[<-b];go_enter func69,ntmps69;go_wp2_with fail;refine(pw a c v i).mono ?_;rintro e j ⟨rfl,f⟩;rw[f,<-b];go_wp2;exact UM (by simp[results,results69,go_sem]) rfl ⟨rfl,rfl⟩
theorem MY(h1:1<=n)(h2:n<=32)(h3:m<=300)(hd:DL v a m Z)(hg:Hnd v):
 C_ prog 69 #[n,(a,m,c)] v λO j=>∃a' c' rs,O=Zr #[.slice a' m c',Zn]/\H_ (RL j a' m n rs/\pJ n Z rs)/\H_ (OS v j):=by
 have⟨aV,hC,HC⟩:=wy (m:=m) (n:=n) (by omega);have HD:=Y hd;have aK:=Y hg;clear hd hg;go_enter func69,ntmps69;go_wp2_with fail;refine(rE a c v h1 h2 h3).mono ?_;rintro O w1 ⟨aj,rfl,K1,D1⟩;have⟨W0,ag⟩:=ZX (w1.alloc (.cells aV 95));have⟨g,ai⟩:=ZX w1.heap.size;have D0:H_ (OS v W0):=(by rw[ag];exact D1.alloc D1.size _);have L1:=Y (show ∃s o,StR v W0 aj n 0 g m Z [] s o by
  have⟨av,s,o,M,hp,hs⟩:=K1.o;have hr:=HC w1;refine⟨s,o,λx=>av x\/x=g,M,[],?_,?_,D0,⟨λbd M ax=>by simp at ax,λbd bo M r' _ ax=>by simp at ax⟩,(by intro aT hy;cases hy),?_⟩
  ·have A:=hp.NT (.cells aV 95) hr.nby
   rw[ag,ai];exact A
  ·intro x hx
   rcases hx with hx|hx
   ·exact hs x hx
   ·rw[hx,ai];exact D1.size
  ·rw[ag,ai]
   exact hr)
 have aI:=Y HD;have ba:H_ (Av (λb=>b<v) a m):=aI.av;clear K1 HC;go_upto_region 6 with fail;rw[<-ag,<-ai];clear hC;go_loopw [8,29] (λvl am wr=>∃(k:Nat) (rs:List Rp),k<=m/\am=Zb (k:Int)/\vl=(g,k,m)/\H_ (rs.length=k/\∃s o,StR v wr aj n k g m Z rs s o)) (λ_ am _=>m-(intOf am).toNat)
 case atStart=>exact⟨0,[],ol _,rfl,rfl,⟨rfl,L1⟩⟩
 case round=>
  obtain⟨k,rs,hk,rfl,rfl,hL⟩:=hrel;by_cases aN:k<m
  ·have bn:(k:Int)<(m:Int):=by omega
   have⟨ad,s,o,av,M,ls,C,hS,W,hG,B,z⟩:=hL.o;have ah:=Y ad;have HP:=Y C;have HS:=Y hS;have HB:=Y W;have HG:=Y hG;have HY:=Y B;have HR:=Y z;have⟨b,off,x,ha,hx,a4,hbl,x0,x1,x2,x3,x4,x5,x6,x7,x8,x9,aP⟩:=(aI.later HB ba).at_ k aN;subst ha;have a3:=Y hx;have bf:=Y a4;clear hx a4 ad C hS W hG B z hL;have⟨kd,at_,fr,ay⟩:=x;simp only at x0 x1 x2 x3 x4 x5 x6 x7 x8 x9 aP;have⟨W2,ap⟩:=ZX (wr.alloc (.cells (Zp kd at_ fr ay) 67));have D2:=beA ap;have h:=bxA ap;go_upto_region 8 with fail;rw[<-ap];clear x0 x1 x2 x3 x4 x5 x6 x7 x8 x9 aP;have N:=h.cell 0;have D:=h.cell 1;have L:=h.cell 2;have y3:=h.cell 3;have y4:=h.cell 4;have y5:=h.cell 5;have y6:=h.cell 6;have Q:=h.cell 7;have y8:=h.cell 8;have y9:=h.cell 9;have aH:=h.cell 10;simp only[OB,OA,Oz] at N D L y3 y4 y5 y6 Q y8 y9 aH;obtain⟨d,aO⟩:∃d:B8,H_ (d=doD n (aC n (Z.take k)).2 ⟨kd,at_,fr,ay⟩):=⟨_,rfl⟩;have⟨E,hE⟩:=ZX (doE n ⟨kd,at_,fr,ay⟩);have aA:=zI (HP.later D2) (by omega) bf aO;rw[<-hE] at aA;have aU:=Y aA;clear aA;go_wp2_with fail;refine aU.mono ?_;clear aU;rintro O u ⟨rfl,K3⟩;have⟨p3,o3,aL⟩:=StR.did a3 HS HB HG HY HR D2 K3;have S:=Y aL;clear aL K3 N D L y3 y4 y5 y6 Q y8 y9 aH;have⟨tl,a0,aW,bl,aR⟩:=S.told;have a2:=Y aR;have al:=Y (TH tl (TH a0 aW));clear tl a0 aW aR;have⟨S3,y,bm,aS,_⟩:=S.o;have P3:=Y aS;clear aS;have⟨W4,ae⟩:=ZX (u.alloc (.cells d 65));have⟨i,aq⟩:=ZX u.heap.size;have P:=beA ae;have B4:H_ (OU W4 i d):=(by rw[ae,aq];exact Bx.new u _ _);go_upto_region 9 with fail;rw[<-ae,<-aq];go_wp2_with fail;refine(rM (P3.later P) a2).mono ?_;rintro O w5 ⟨q,rfl,O5,D5⟩;have⟨hv,az⟩:=ZX p3.ar;have⟨r,a1⟩:=ZX p3.safe;have⟨p,H⟩:=ZX o3.back;rw[<-az,<-a1,<-H];have⟨t,aB⟩:=ZX (w5.alloc (.cells #[Zi,Zu,Zu,Zu,Zu,Zu,Zu,Zu,Zu,hv,r,p,(q,n,n)] 95));have⟨e,ab⟩:=ZX w5.heap.size;have D6:=beA aB;have B6:H_ (Bx t e #[Zi,Zu,Zu,Zu,Zu,Zu,Zu,Zu,Zu,hv,r,p,(q,n,n)] 95):=(by rw[aB,ab];exact Bx.new w5 _ _);have F6:=Y (D5.t D6);have A6:=Y (B4.later F6 B4.lt);have Q6:=Y (show BL t (some ⟨q,0,none⟩) n bl/\W4<=q from by
    have⟨a9,c9,bg,_,aG,a5⟩:=aF O5;injection bg with e1 e2 _
    subst e1;rw[<-e2] at aG;exact⟨⟨e2.symm,aG.later D6⟩,a5 _ rfl⟩)
   have aJ:=Y (P.t F6);have bb:=Y (show OS v t from by
    have⟨_,_,_,_,_,A,_⟩:=S.o;exact A.t aJ)
   have a7:=Y (show Hnd t.drew from(aK.later bb.drew aK.lt));have be:¬e=i:=by
    have A:=P.size;have h8:=D5.size;rw[aq,ab];have h7:W4=u.heap.size+1:=by rw[ae,dl]
    omega
   have a8:i<t:=A6.lt;have bh:e<t:=B6.lt;go_upto_region 12 with fail;rw[<-aB,<-ab];have⟨z0,z1,z2,z3,z4,z5,z6,z7⟩:=Bx.eight A6;go_region_held3 (λj=>j.cell? i=Za d.z0/\j.cell? (i,1)=Za d.z1/\j.cell? (i,2)=Za d.z2/\j.cell? (i,3)=Za d.z3/\j.cell? (i,4)=Za d.z4/\j.cell? (i,5)=Za d.z5/\j.cell? (i,6)=Za d.z6/\j.cell? (i,7)=Za d.z7)
    (first|((try simp only[an]);with_reducible exact⟨z0,z1,z2,z3,z4,z5,z6,z7⟩)|((try simp only[aw be]);with_reducible exact⟨N,D,L,y3,y4,y5,y6,Q⟩))
    (first|(go_at_call 94;(with_reducible refine(Jl (x:=E) a7.o).mono ?_);rintro O w7 ⟨rfl,D7⟩;have F7:=Y (show OS t w7 from(ce _ _).drew.trans D7);have A7:=Y (A6.later F7 a8);have f:=Y (B6.later F7 bh);have⟨N,D,L,y3,y4,y5,y6,Q⟩:=Bx.eight A7;have r0:=f.cell 0;have I:=f.cell 1;have r2:=f.cell 2;have y:=f.cell 3;have r4:=f.cell 4;have F:=f.cell 5;have G:=f.cell 6;have r7:=f.cell 7;have r8:=f.cell 8;simp only[OB,OA,Oz] at r0 I r2 y r4 F G r7 r8;have rz:=f.frozen))
   all_goals
    have⟨l,ar⟩:=ZX (((((((((w7.setCell e (Zb E)).setCell (e,1) (Za d.z0)).setCell (e,2) (Za d.z1)).setCell (e,3) (Za d.z2)).setCell (e,4) (Za d.z3)).setCell (e,5) (Za d.z4)).setCell (e,6) (Za d.z5)).setCell (e,7) (Za d.z6)).setCell (e,8) (Za d.z7));have G8:H_ (w7.grownBy l (some e)):=(by rw[ar];exact ak (ak (ak (ak (ak (ak (ak (ak (ak (au w7 (J:=some e)) _ _) _ _) _ _) _ _) _ _) _ _) _ _) _ _) _ _);have B8:=Y (show Bx l e #[E,Za d.z0,Za d.z1,Za d.z2,Za d.z3,Za d.z4,Za d.z5,Za d.z6,Za d.z7,hv,r,p,(q,n,n)] 95 by
     rw[ar];have h8:=((((((((f.set 0 (Zb E)).set 1 (Za d.z0)).set 2 (Za d.z1)).set 3 (Za d.z2)).set 4 (Za d.z3)).set 5 (Za d.z4)).set 6 (Za d.z5)).set 7 (Za d.z6)).set 8 (Za d.z7);simp only[sp,Do,Eq] at h8;exact h8)
    have bp:q<e:=by rw[ab];exact(World.ownsRow.lt O5 q rfl).2
    have bi:u<=e:=by rw[ab];exact OP P.size D5.size
    have D8:=Y (aM (aJ.t F7) G8 bi);have Q8:=Y (show BL l (some ⟨q,0,none⟩) n bl from(Q6.1.later F7).iK G8 (λ_ s hp=>by cases hp;show q≠e;omega));rw[<-ar];clear r0 I r2 y r4 F G r7 r8 rz N D L y3 y4 y5 y6 Q z0 z1 z2 z3 z4 z5 z6 z7;have D9:=Y (show OS u (l.alloc (.cells #[.int .i64 E,.int .u8 d.z0,.int .u8 d.z1,.int .u8 d.z2,.int .u8 d.z3,.int .u8 d.z4,.int .u8 d.z5,.int .u8 d.z6,.int .u8 d.z7,.int .i64 (hv:Int),.int .i64 (r:Int),.int .i64 (p:Int),.slice (some ⟨q,0,none⟩) n n] 95)) from D8.o.alloc D8.o.size _);have R9:=Y (show iG (l.alloc (.cells #[E,Za d.z0,Za d.z1,Za d.z2,Za d.z3,Za d.z4,Za d.z5,Za d.z6,Za d.z7,hv,r,p,(q,n,n)] 95)) g m n rs from by
     have⟨_,_,_,_,_,_,_,_,A⟩:=S.o;exact A.ext (T:=λ_=>False) (Ex.below D9) id)
    have⟨bc,ao,aD,aZ⟩:=uK (K:=127) R9 ⟨E,d,hv,r,p,q,bl⟩ (Bx.new l _ _) (by rw[ah];exact aN);rw[ah] at ao;have bj:=Y ao;have a6:H_ (StR v bc aj n (k+1) g m Z (rs++[⟨E,d,hv,r,p,q,bl⟩]) p3 o3):=(StR.rep S D9 ah ⟨⟨_,a3,hE,aO⟩,by rw[az];exact al.1,by rw[H,az];exact al.2.2,by rw[a1,H];exact al.2.1,by rw[H];exact a2⟩ H (OP P.size Q6.2) (Q8.later (af (v:=l))) aD aZ);clear ao aD aZ;have r0:=B8.cell 0;have I:=B8.cell 1;have r2:=B8.cell 2;have y:=B8.cell 3;have r4:=B8.cell 4;have F:=B8.cell 5;have G:=B8.cell 6;have r7:=B8.cell 7;have r8:=B8.cell 8;have r9:=B8.cell 9;have aE:=B8.cell 10;have aQ:=B8.cell 11;have aX:=B8.cell 12;simp only[OB,OA,Oz] at r0 I r2 y r4 F G r7 r8 r9 aE aQ aX;go_wp2_with (at_builtin;refine Go.Lib.wpList_append_run _ rfl _ _ 127 127 rfl (.slice (some ⟨g,0,none⟩) k m) (.slice (some ⟨l.heap.size,0,none⟩) 1 1) rfl rfl _ _ bj.o ?_);clear r0 I r2 y r4 F G r7 r8 r9 aE aQ aX;go_wp2;go_roundw
    case rel=>exact⟨k+1,rs++[⟨E,d,hv,r,p,q,bl⟩],by omega,by go_num,rfl,Y ⟨by rw[OC,ah.o];rfl,p3,o3,a6.o⟩⟩
    case measure=>simp[intOf];omega
  ·obtain rfl:k=m:=by omega
   have⟨ad,s,o,av,M,ls,C,hS,W,hG,B,z⟩:=hL.o;rw[OL (by have:=HD.1;omega)] at C;have HB:=Y W;have HE:=Y (show RL wr (some ⟨g,0,none⟩) k n rs/\pJ n Z rs from⟨by
    rw[<-ad] at z ⊢;exact z.rl (λaT hy=>(B aT hy).2.1.1),hG⟩)
   clear ad C hS W hG B z hL;go_wp2;exact UM (v:=.tuple #[.slice (some ⟨g,0,none⟩) k k,.nilIface]) (by simp[results,Tryz.results69,go_sem]) rfl ⟨_,_,rs,rfl,HE,HB⟩
theorem kW(j:Pf_->Of_->Rc_->Prop)(D:PaS J C v k n c T l X W S R)(P:Mir.Ends [] j X W S R)(hc:c+Mir.cI R<=1000000):
 C_ prog 129 #[(k,0)] v λH F=>H=Zv Zn/\H_ (∃h b a d f,j b a d/\PaS J h F k n f T l b a d []/\f<=c+Mir.cI R/\Mv J C h v F):=by
 have HX:=Y D;have HE:=Y P;have HC:=Y hc;clear D P hc;go_enter func129,ntmps129;go_upto_region 1 with fail;go_loopg [3] (Mir.cI R) (λgk _ wr=>∃(h:Nat->Prop) (b:Pf_) (a:Of_) (d:Rc_) (f:Nat) (i:List Lt_),H_ (Mir.Ends [] j b a d i/\PaS J h wr k n f T l b a d i/\Mv J C h v wr)/\H_ (f+Mir.cI i<=c+Mir.cI R/\Mir.cI i<=gk))
 case atStart=>exact⟨C,X,W,S,c,R,⟨HE,HX,Mv.below (ce _ _)⟩,OJ _,OJ _⟩
 case round=>
  have⟨h,b,a,d,f,i,z,y⟩:=hrel;have⟨L,ap,M⟩:=z.o;have⟨aq,al,am,ao,ai,an,q,ag⟩:=ap;have⟨v2,l2,af,E,G⟩:=q.box;have⟨av,cv,A,_⟩:=E.len;rw[G] at A;subst A;have ab:=Y (show PaS J h wr k n f T l b a d i from⟨aq,al,am,ao,ai,an,q,ag⟩);have B:=Y L;have K:=Y M;have p:=Y y;have o:=Bx.cell af 2;simp only[OB,OA,Oz] at o;clear q ag L M af E G z y;cases i with
  |nil=>
   simp only[ut] at o;go_wp2;go_ret;have hP:j b a d:=by cases B with|nil r=>exact r
   exact⟨rfl,⟨h,b,a,d,f,hP,ab,by have h9:=p.1;have h8:Mir.cI ([]:List Lt_)=0:=rfl;omega,K⟩⟩
  |cons e rest=>
   have⟨N,I⟩:=ZX ((e::rest).length);rw[<-I] at o;have au:0<N:=by rw[I];simp
   have ar:(0:Int)<(N:Int):=by omega
   have Q:Mir.Ends [] j (Mir.ev [] b a d e).1 (Mir.ev [] b a d e).2.1 (Mir.ev [] b a d e).2.2.1 (rest++(Mir.ev [] b a d e).2.2.2.toList):=by cases B with|cons r=>exact r
   have aj:=Y Q;have hw:Mir.cI (e::rest)=Mir.way e+Mir.cI rest:=by unfold Mir.cI;simp
   have u:=Mir.Dk [] b a d e;have s:=Mir.xN rest (Mir.ev [] b a d e).2.2.2.toList;have HW:=Y (TH hw (TH u s));have ah:f+1<=1000000:=by have h9:=p.1;have h8:=HC.o;omega
   have t:Mir.cI (rest++(Mir.ev [] b a d e).2.2.2.toList)<Mir.cI (e::rest):=by omega
   have ad:=Y t;clear Q hw u s t;go_wp2_with fail;refine(nD ab ah (x:=0) (by omega) (by omega) (m:=0) (by unfold eV;simp) (U8:=e) rfl).mono ?_;rintro H w5 ⟨rfl,K5⟩;clear o;go_wp2;have⟨S5,O,ak⟩:=K5.o;have e5:(e::rest).eraseIdx 0=rest:=rfl;rw[e5] at O;go_roundg (Mir.cI (rest++(Mir.ev [] b a d e).2.2.2.toList))
   case measure=>have h1:=ad.o;have h2:=p.2;omega
   case rel=>exact⟨S5,_,_,_,f+1,_,⟨aj,O,K.trans ak⟩,by have h1:=ad.o;have h2:=p.1;omega,OJ _⟩
theorem zX(a:List Lt_):Mir.cI a<=2*a.length:=by
 induction a with
 |nil=>exact OJ _
 |cons l a b=>
  have h1:Mir.cI (l::a)=Mir.way l+Mir.cI a:=by unfold Mir.cI;simp
  have h2:Mir.way l<=2:=by cases l<;>simp[Mir.way]
  rw[fd];omega
theorem xl{o:Of_}(h:X.safe≠X.ar):1<=Mir.ji X o:=by
 unfold Mir.ji;rw[UX h];split
 ·split
  ·omega
  ·split<;>omega
 ·split<;>omega
theorem Je{a:List Lt_}(I:PaI n c T l i X W S R)(h:Mir.jC (Mx.Good n T) X S e b a):a.length<=4:=by
 cases h with
 |opn _=>simp
 |again _ _=>rw[fB];exact I.queue.1
 |offer _ _ _ _ h4 _=>rw[fB];exact h4
def StL(G:Nat->Prop)(S:Nat->Prop)(w wr:W_)(B n c:Nat)(ae:List (List B8))(now:List B8)(k:Nat)(S':Nat->Prop)(p:Pf_)(o:Of_)(r:Rc_)(c':Nat):Prop:=
 PaS G S' wr B n c' ae now p o r []/\Mv G S S' w wr/\c'<=c+128+9*k/\Mir.ji p o+k<=3
theorem yA(A:PaS J C v k n c T l X W S R)(hc:c<=900000):
 C_ prog 95 #[(k,0)] v λp h=>∃d:Nat,p=Zr #[d,Zn]/\H_ (d<=3)/\H_ (∃j a f o i,a.safe=a.ar/\PaS J j h k n i T l a f o []/\Mv J C j v h):=by
 have HX:=Y A;have az:Mir.cI R<=128:=OP (zX R) (by have:=A.lim;omega);have HE:=Y (show Mir.Ends [] (λ_ _ _=>True) X W S R by
  have⟨au,ah,am,P,ar,b,D,I⟩:=A;exact(Mir.Db _ X W S R (OJ _) I.bC).mono (λ_ _ _ _=>trivial))
 clear A;go_enter func95,ntmps95;go_wp2_with fail;refine(kW (λ_ _ _=>True) HX HE (by omega)).mono ?_;rintro p w1 ⟨rfl,K1⟩;have⟨M,p1,o1,r1,c1,_,L,al,N⟩:=K1.o;have L1:=Y (show StL J C v w1 k n c T l 0 M p1 o1 r1 c1 from⟨L,N,by omega,Mir.KY⟩);clear L N al K1;go_upto_region 5 with fail;go_loopw [5,6,7] (λH _ _ wr=>∃(d:Nat) (j:Nat->Prop) (a:Pf_) (f:Of_) (o:Rc_) (i:Nat),H=Zb (d:Int)/\H_ (StL J C v wr k n c T l d j a f o i)) (λH _ _ _=>10-(intOf H).toNat)
 case atStart=>exact⟨0,M,p1,o1,r1,c1,rfl,L1⟩
 case round=>
  obtain⟨d,j,a,f,o,i,rfl,e⟩:=hrel;have ak:d<=3:=by have:=e.2.2.2;omega
  have⟨au,ah,am,P,ar,b,D,I⟩:=e.1;have⟨v2,l2,ad,av,ag⟩:=D.box;have⟨g,oa,on,oc,sa,sn,sc,ay,qa,qn,qc,aB,aD,aA,x⟩:=D.pr;have r:=Bx.cell ad 0;have B:=Bx.cell x.bx 2;have m:=Bx.cell x.bx 7;simp only[OB,OA,Oz] at r B m;rw[x.r.num] at B;have V:H_ (wr.drew.cell? (P,2)=Zb (a.ar:Int)):=B;have F:=Y I;clear D I ad av ag x B;have ai:(d:Int)<200:=by omega
  have aC:decide ((d:Int)<200)=true:=by simpa using ai
  by_cases q:a.safe=a.ar
  ·rw[q] at m;go_upto_region 5 with fail;go_region_held3 (λh=>h.cell? k=(P,0)/\h.cell? (P,7)=Zb (a.ar:Int))
    (first|((try simp only[an]);with_reducible exact⟨r,m⟩))
    (first|(go_at_call 128;(with_reducible refine(fD P V.o).mono ?_);rintro p w5 ⟨rfl,s⟩;rw[s];clear s))
   all_goals
    clear r m;have t:=Y q;clear q;go_wp2_with fail;exact UM (by simp[results,results95,go_sem]) rfl ⟨d,rfl,Y ak,⟨j,a,f,o,i,t,e.1.later (ce _ _).drew,e.2.1.trans (Mv.below (ce _ _).drew)⟩⟩
  ·have aE:¬(a.safe:Int)=(a.ar:Int):=by omega
   go_upto_region 5 with fail;go_region_held3 (λh=>h.cell? k=(P,0)/\h.cell? (P,7)=Zb (a.safe:Int))
    (first|((try simp only[an]);with_reducible exact⟨r,m⟩))
    (first|(go_at_call 128;(with_reducible refine(fD P V.o).mono ?_);rintro p w5 ⟨rfl,s⟩;rw[s];clear s))
   all_goals
    clear r m;have t:=Y q;have ap:i+1<=1000000:=by have:=e.2.2.1;omega
    have DD:=Y (show OS wr wr.drew from(ce _ _).drew);have XD:=Y (e.1.later DD);clear q;go_wp2_with fail;refine(tV j k n i T l a f o [] wr.drew XD ap).mono ?_;rintro p w6 ⟨rfl,K6⟩;obtain⟨S6,p6,r6,E,G,K,Q⟩:=K6.o;have aq:=Je F G;rw[rN E [] (by simp;omega),pp] at K;have aw:=Y K;have ax:=zX E;have af:=Mir.FI (z:=[]) F.bC.1 F.kn (k:=Mir.ji a f-1) (by have:=xl (o:=f) t;omega) t G;have ao:=Y af;have M6:=Y (show Mv J C S6 v w6 from(e.2.1.trans (Mv.below DD)).trans Q);have Z:i+1+Mir.cI E<=1000000:=by have:=e.2.2.1;omega
    clear G K af Q K6;go_wp2_with fail;refine(kW _ aw ao Z).mono ?_;rintro p w7 ⟨rfl,K7⟩;have⟨S7,p7,o7,r7,c7,U,O,aj,ab⟩:=K7.o;have L7:=Y (show StL J C v w7 k n c T l (d+1) S7 p7 o7 r7 c7 from⟨O,M6.trans ab,by have:=e.2.2.1;omega,by have h9:=U.2.2.2;have h8:=e.2.2.2;have h7:=xl (o:=f) t;omega⟩);clear U O aj ab K7 Z ax aq;go_wp2_with fail;go_roundw
    case rel=>exact⟨d+1,S7,p7,o7,r7,c7,by go_num,L7⟩
    case measure=>simp[intOf];omega
def StD (W0 wr:W_) (B n k:Nat) (ds:List De):Prop:=∃ S p o r ls,PaS (λ_=>False) S wr B n (1+k) (Mx.aC n (ds.take k)).1 (Mx.aC n (ds.take k)).2 p o r ls/\(∀ x,S x->W0.heap.size<=x)/\OS W0 wr
theorem FM(h1:1<=n)(h2:n<=32)(h3:m<=300)(hd:DL v a m Z):
 C_ prog 70 #[n,(a,m,c)] v λi w'=>∃rv k,i=Zr #[rv,Zb ((k:Nat):Int),Zn]/\H_ (JM v w' n Z rv k):=by
 have HD:=Y hd;have⟨s,ah⟩:=ZX (v.alloc (.cells Zo 95));have D0:=beA ah;have S:=bxA ah;have av:=Y (HD.later D0 HD.av);have aN:H_ (Av (λag=>ag<s) a m):=av.av;clear hd;go_enter func70,ntmps70;go_upto_region 1 with fail;rw[<-ah];go_wp2_with fail;refine(rE a c s h1 h2 h3).mono ?_;rintro i w1 ⟨aj,rfl,K1,D1⟩;have L1:=Y (show StD s w1 aj n 0 Z by
  have⟨ad,ae,af,ab,hp,hs⟩:=K1.o;exact⟨ad,ae,af,ab,[],hp,hs,D1⟩)
 clear K1;go_upto_region 5 with fail;go_loopw [10,25] (λ_ M wr=>∃k:Nat,k<=m/\M=Zb (k:Int)/\H_ (StD s wr aj n k Z)) (λ_ M _=>m-(intOf M).toNat)
 case atStart=>exact⟨0,ol _,rfl,L1⟩
 case round=>
  obtain⟨k,hk,rfl,O⟩:=hrel;by_cases aO:k<m
  ·have aZ:(k:Int)<(m:Int):=by omega
   have⟨ad,ae,af,ab,ls,p,G,D⟩:=O.o;have HP:=Y p;have HS:=Y G;have q:=Y D;have⟨ag,aT,z,ha,hx,ap,hbl,x0,x1,x2,x3,x4,x5,x6,x7,x8,x9,al⟩:=(av.later q aN).at_ k aO;subst ha;have aH:=Y hx;have aJ:=Y ap;clear hx ap p G D O;have⟨kd,ax,fr,aB⟩:=z;simp only at x0 x1 x2 x3 x4 x5 x6 x7 x8 x9 al;have⟨W2,ai⟩:=ZX (wr.alloc (.cells (Zp kd ax fr aB) 67));have D2:=beA ai;have h:=bxA ai;go_upto_region 7 with fail;rw[<-ai];clear x0 x1 x2 x3 x4 x5 x6 x7 x8 x9 al;have K:=h.cell 0;have E:=h.cell 1;have I:=h.cell 2;have A:=h.cell 3;have L:=h.cell 4;have F:=h.cell 5;have H:=h.cell 6;have J:=h.cell 7;have B:=h.cell 8;have t:=h.cell 9;have x:=h.cell 10;simp only[OB,OA,Oz] at K E I A L F H J B t x;go_wp2_with fail;refine(zI (HP.later D2) (by omega) aJ rfl).mono ?_;rintro i w3 ⟨rfl,C⟩;have L3:=Y (show StD s w3 aj n (k+1) Z by
    have⟨S',p',o',r',aK,q1,q2,q3⟩:=C.o;have e1:Z.take (k+1)=Z.take k++[⟨kd,ax,fr,aB⟩]:=by rw[up,aH];rfl
    have q4:=((Mv.below D2).trans q3).pL q.size HS;refine⟨S',p',o',r',aK,?_,q4.2,q.trans q4.1⟩;rw[e1,iX];exact q1)
   clear K E I A L F H J B t x C;go_wp2_with fail;go_roundw
   case rel=>exact⟨k+1,by omega,by go_num,L3⟩
   case measure=>simp[intOf];omega
  ·have aL:k=m:=by omega
   subst aL;have HT:H_ (Z.take k=Z):=OL (by have:=HD.1;omega);have⟨ad,ae,af,ab,ls,p,G,D⟩:=O.o;rw[HT] at p;have HP:=Y p;have HS:=Y G;have q:=Y D;clear p G D O;go_wp2_with fail;refine(yA HP (by omega)).mono ?_;rintro i w3 ⟨M,rfl,aI,C⟩;have⟨S3,u,o3,X,c3,az,N,aF⟩:=C.o;have aw:=aF.pL q.size HS;have aG:=Y N;have F3:=Y (q.trans aw.1);have ar:=N.len;have ak:o3.back=u.ar/\(∀l∈(aC n Z).1,l.length=n/\∀z∈l,by8 z)/\((aC n Z).2.length=n/\∀z∈(aC n Z).2,by8 z):=by
    have⟨aV,aQ,a0,aR,aX,ag,aU,P⟩:=N;have h9:=P.bC.1.safe;have h8:=P.bC.1.back;exact⟨by omega,P.seen.sl,P.seen.nl⟩
   obtain⟨o,hbl⟩:∃o,(aC n Z).1[u.ar]?=some o:=⟨_,Ox (by omega)⟩;have⟨b,aP⟩:=ZX u.ar;have j:H_ (u.safe=b/\o3.back=b/\u.ar=b/\(aC n Z).1.length=b+1/\(aC n Z).1[b]?=some o):=(by rw[aP];exact⟨az,ak.1,rfl,ar,hbl⟩);have HG:=Y ak.2;clear az N aF aw ar ak hbl C;go_wp2_with fail;refine(rM aG (Va:=o) (by rw[j.2.1];exact j.2.2.2.2)).mono ?_;rintro i w4 ⟨r,rfl,O4,D4⟩;rw[j.1,j.2.1,j.2.2.1];have F4:=Y (F3.t D4);have⟨W5,T⟩:=ZX (w4.alloc (.cells #[Zi,Zu,Zu,Zu,Zu,Zu,Zu,Zu,Zu,b,b,b,(r,n,n)] 95));have D5:=beA T;have e:=bxA T;have F5:=Y (F4.t D5);have O5:H_ (ay W5 w3 (r,n,n) o):=aW O4 D5;go_upto_region 13 with fail;rw[<-T];have d:=Y (Bx.later S F5 S.lt);have zf:=d.frozen;have z0:=d.cell 0;have z1:=d.cell 1;have z2:=d.cell 2;have z3:=d.cell 3;have z4:=d.cell 4;have z5:=d.cell 5;have z6:=d.cell 6;have z7:=d.cell 7;have z8:=d.cell 8;have z9:=d.cell 9;have am:=d.cell 10;have ao:=d.cell 11;have aq:=d.cell 12;simp only[OB,OA,Oz] at z0 z1 z2 z3 z4 z5 z6 z7 z8 z9 am ao aq;have K:=e.cell 0;have E:=e.cell 1;have I:=e.cell 2;have A:=e.cell 3;have L:=e.cell 4;have F:=e.cell 5;have H:=e.cell 6;have J:=e.cell 7;have B:=e.cell 8;have t:=e.cell 9;have x:=e.cell 10;have aE:=e.cell 11;have au:=e.cell 12;simp only[OB,OA,Oz] at K E I A L F H J B t x aE au;have⟨W6,Q⟩:=ZX (iW W5 v (b:Int) (b:Int) (b:Int) (r,n,n));have f:H_ (Bx W6 v #[Zi,Zu,Zu,Zu,Zu,Zu,Zu,Zu,Zu,b,b,b,(r,n,n)] 95):=(by rw[Q];exact oK d);have G6:H_ (W5.grownBy W6 (some v)):=(by rw[Q];exact ke);have aS:¬w4=v.heap.size:=by have h9:=S.lt;have h8:=F4.size;omega
   unfold iW at Q;go_wp2_with fail;rw[<-Q];clear z0 z1 z2 z3 z4 z5 z6 z7 z8 z9 am ao aq K E I A L F H J B t x aE au zf;have r0:=f.cell 0;have r1:=f.cell 1;have r2:=f.cell 2;have X:=f.cell 3;have r4:=f.cell 4;have r5:=f.cell 5;have r6:=f.cell 6;have r7:=f.cell 7;have r8:=f.cell 8;have r9:=f.cell 9;have an:=f.cell 10;have aA:=f.cell 11;have aD:=f.cell 12;simp only[OB,OA,Oz] at r0 r1 r2 X r4 r5 r6 r7 r8 r9 an aA aD;refine UM (by simp[results,results70,go_sem,r0,r1,r2,X,r4,r5,r6,r7,r8,r9,an,aA,aD]) rfl ⟨_,M,rfl,⟨b,r,o,rfl,aI,j.2.2.2.1,j.2.2.2.2,?_,HG.1,HG.2,?_⟩⟩
   ·have h9:=S.lt;have h8:=F3.size;have hq:=(World.ownsRow.lt O5 r rfl).1;exact World.ownsRow.mono (World.ownsRow.kept O5 G6 (.inr (λi=>by have h7:=OG i;simp at h7;omega))) (by omega)
   ·exact aM (D0.t F5) G6 (OJ _)
section
variable {w:W_}
theorem GH(h:m<=c):
 C_ prog 76 #[(a,m,c)] v λe b=>e=Zv (a,m,m)/\b=v:=by
 have h1:(m:Int)<=c:=by omega
 go_enter func76,ntmps76;go_wp2_with fail;go_ret;exact⟨rfl,rfl⟩
theorem DI:(prog.info? 67).map (λi=>(i.zero,i.size,i.bytes))=some (some (.agg Zk),11,32):=by kernel_rfl
theorem zS{N:Nat}{f:Nat×Nat}(h:v.heap[N]?=some (.cells E 67 f))(d:∀x∈Z,x.ok)(h0:0<Z.length)(hc:∀(j:Nat) (u:V_),(Z.flatMap De.cs)[j]?=u->E[j]?=u):Scr v (some ⟨N,0,none⟩) Z.length Z:=
 ⟨⟨rfl,d,λ_=>⟨N,0,rfl,(co.1 h).1,λi x c j u a=>by
  have b:j<11:=(OI.1 a).1;have e:=dJ De.cs (λ_=>rfl) Z i x c b;simp only[World.cell?,h,m9];exact hc _ _ (by rw[e];exact a)⟩⟩,λ_=>⟨_,E,f,rfl,h⟩,λe=>by omega⟩
theorem I9{X:W_}(L:Scr X a m Z)(O:F.ok)(Q:m<=300):∃z u i,H_ ((Builtin.append_ #[29,29] K #[(a,m,m),(X,1,1)]).run prog (X.alloc (.cells F.cs.toArray 67))=.ok (.slice (some z) (m+1) u) i)/\
 H_ (Scr i (some z) (m+1) (Z++[F]))/\H_ (OS X i)/\H_ (m+1<=u):=by
 have⟨n,A,o,k,B⟩:=info_parts DI;have⟨⟨h1,h2,G⟩,_,E⟩:=L;have M:=Bx.new X F.cs.toArray 67;have D:∀(j:Nat) (v:V_),F.cs[j]?=v->(X.alloc (.cells F.cs.toArray 67)).cell? ((⟨X,0,none⟩:A_).add j)=v:=λj v e=>by
  rw[GT,m9,M.cell j,OB];exact e
 have s:∀y∈Z++[F],y.ok:=λy b=>by
  rcases ip.1 b with b|b
  ·exact h2 y b
  ·rw[i5.1 b];exact O
 have C:(Z++[F]).length=m+1:=by rw[OC,h1];rfl
 have l:(Z++[F]).flatMap De.cs=Z.flatMap De.cs++F.cs:=by simp
 by_cases t:m=0
 ·have H:=E t;subst H t;have hd:Z=[]:=kw h1;subst hd;have h:=Go.run_append_nil (P:=prog) (X.alloc (.cells F.cs.toArray 67)) 29 K 67 n _ Tryz.underlying29 A o ⟨X,0,none⟩ 1 1 F.cs (by rw[k];rfl) D (by omega) (by omega) (by rw[B];omega);refine⟨_,_,_,Y h,Y ?_,(((af (v:=X)).drew).alloc (by simp) _),(grownCap_ge _ _ _ _)⟩;refine zS (N:=(X.alloc (.cells F.cs.toArray 67)).heap.size) (UO _ _) s (by simp) (λj J c=>?_);rw[l] at c;have d:=(OI.1 c).1;rw[Array.getElem?_append_left (by simpa using d),OB];simpa using c
 ·obtain⟨x,f,rfl,I,hc⟩:=G (by omega);have h:=Go.run_append_grow (P:=prog) (X.alloc (.cells F.cs.toArray 67)) 29 K 67 n _ Tryz.underlying29 A o ⟨x,f,none⟩ m m (Z.flatMap De.cs) (by rw[k,gd De.cs 11 (λ_=>rfl),h1]) (λj v e=>by
   have d:=(OI.1 e).1;rw[gd De.cs 11 (λ_=>rfl)] at d;obtain⟨y,b⟩:∃y,Z[j/11]?=some y:=⟨_,Ox (by omega)⟩
   have r:=dJ De.cs (g:=11) (λ_=>rfl) Z (j/11) (j:=j%11) y b (Nat.mod_lt _ (by omega));rw[show j/11*11+j%11=j by omega,e] at r;have q:=hc _ y b (j%11) v r.symm;rw[show f+j/11*11+j%11=f+j by omega] at q;rw[Addr.add_lit];exact((af (v:=X)).cell (p:=(x,f+j)) I).trans q) ⟨X,0,none⟩ 1 1 F.cs (by rw[k];rfl) D (by omega) (by omega) (by rw[B];have:=nextslicecap_le (need:=m+1) (old:=m) (by omega);omega)
  refine⟨_,_,_,Y h,Y ?_,(((af (v:=X)).drew).alloc (by simp) _),(grownCap_ge _ _ _ _)⟩;rw[<-C];refine zS (N:=(X.alloc (.cells F.cs.toArray 67)).heap.size) (UO _ _) s (by rw[C];omega) (λj J c=>?_);rw[l] at c;have d:=(OI.1 c).1;rw[Array.getElem?_append_left (by simpa using d)];simpa using c
theorem lh(c:O.guard=none)(d:O.op=Op.call {callee:=Callee.builtin Builtin.append,args:=#[L,I],argTypes:=#[K,K]}){a b:V_}(h1:N.eval L=Q)(h2:N.eval I=a)(f:(Builtin.append_ #[K,K] O.type #[Q,a]).run prog w=.ok b v)(h:H (N.put O.dst b) v):
 if Region.wanted O (yielded P N.tmps)=true then Oper.wp prog O N w H M else G:=by
 have e:Region.wanted O (yielded P N.tmps)=true:=by simp[Region.wanted,c]
 rw[UY e];unfold Oper.wp execOp;simp only[d,resolve,invoke,builtin,T7,Uw,T6,Ul,i7,rx,h1,h2,f];exact h
theorem xO{ab:Tx}(t:DX w k q Q n a m c ab Z)(hx:De.ok ⟨x,y,z,d⟩)(hm:m<=300):
 C_ prog 54 #[(k,0),.agg (Zp x y z d)] w λP O=>∃h f,P=Zv (.slice (some h) (m+1) f)/\H_ (Scr O (some h) (m+1) (Z++[⟨x,y,z,d⟩]))/\H_ (OS w O)/\H_ (m+1<=f):=by
 have⟨W,o⟩:=ZX (w.alloc (.cells (Zp x y z d) 67));have e:H_ (Bx W w _ _):=(by rw[o];exact Bx.new w _ _);have E:=beA o;have H:=Y (t.later E);have c3:=H.bx.cell 3;have i:=e.cell 0;have A:=e.cell 1;have C:=e.cell 2;have G:=e.cell 3;have j:=e.cell 4;have r:=e.cell 5;have N:=e.cell 6;have M:=e.cell 7;have l:=e.cell 8;have B:=e.cell 9;have J:=e.cell 10;simp only[OB,OA,Oz] at c3 i A C G j r N M l B J;have⟨h,f,S,R,X,u,hc⟩:=I9 (X:=W.drew) (H.sc.fr (Fd.of (Below.drew (ce _ _))) H.bx) hx hm (K:=29);have U:(Builtin.append_ #[29,29] 29 #[(a,m,m),(W,1,1)]).run prog ((W.alloc (.cells (Zp x y z d) 67)).drew)=.ok (.slice (some h) (m+1) f) S:=R.o;have T:=t.mc;have V:=Y (E.drew.trans (u.mono E.size));have s:∀b:W_,OS W b->b.cell? (k,3)=(a,m,c)/\b.cell? w=Zb x/\b.cell? (w,1)=Zb y/\b.cell? (w,2)=Zb z/\b.cell? (w,3)=Za d.z0/\b.cell? (w,4)=Za d.z1/\b.cell? (w,5)=Za d.z2/\b.cell? (w,6)=Za d.z3/\b.cell? (w,7)=Za d.z4/\b.cell? (w,8)=Za d.z5/\b.cell? (w,9)=Za d.z6/\b.cell? (w,10)=Za d.z7:=λb D=>
  ⟨(D.cell (p:=(k,3)) H.bx.lt).trans c3,(D.cell (p:=w) e.lt).trans i,(D.cell (p:=(w,1)) e.lt).trans A,(D.cell (p:=(w,2)) e.lt).trans C,(D.cell (p:=(w,3)) e.lt).trans G,(D.cell (p:=(w,4)) e.lt).trans j,(D.cell (p:=(w,5)) e.lt).trans r,(D.cell (p:=(w,6)) e.lt).trans N,(D.cell (p:=(w,7)) e.lt).trans M,(D.cell (p:=(w,8)) e.lt).trans l,(D.cell (p:=(w,9)) e.lt).trans B,(D.cell (p:=(w,10)) e.lt).trans J⟩
 have EY:=Y (show OS W S from(Below.drew (ce _ W)).trans u);clear t R u H c3 i A C G j r N M l B J;go_enter func54,ntmps54;go_upto_region 1 with fail;rw[<-o];go_region_held3 (λb=>b.cell? (k,3)=(a,m,c)/\b.cell? w=Zb x/\b.cell? (w,1)=Zb y/\b.cell? (w,2)=Zb z/\b.cell? (w,3)=Za d.z0/\b.cell? (w,4)=Za d.z1/\b.cell? (w,5)=Za d.z2/\b.cell? (w,6)=Za d.z3/\b.cell? (w,7)=Za d.z4/\b.cell? (w,8)=Za d.z5/\b.cell? (w,9)=Za d.z6/\b.cell? (w,10)=Za d.z7)
  (first|((try simp only[an]);first|with_reducible exact s _ (ce _ _)|with_reducible exact s _ (af)|with_reducible exact s _ EY.o))
  (first|(refine lh rfl (L:=.tmp 9) (I:=.tmp 11) rfl rfl rfl U ?_)|(go_at_call 76;(with_reducible refine(GH (a:=a) T).mono ?_);rintro P w2 ⟨rfl,rfl⟩))
 all_goals
  go_wp2_with fail;go_ret;exact⟨h,f,rfl,X,V,hc⟩
end
section
variable {w:W_}{g:Nat}
theorem DX.script{d:Option A_}{e:Tx}(b:DX w g q Q n a m c e Z)(hs:Scr w d k h)(hc:k<=j):
 DX (w.setCell (g,3) (d,k,j)) g q Q n d k j e h/\Fd g w (w.setCell (g,3) (d,k,j)):=by
 have f:=b.bx.set 3 (d,k,j);refine⟨⟨by simpa using f,b.pn,aB b.row (λi=>?_),hs.fr (Fd.set w 3 _) b.bx,hc,b.nb⟩,Fd.set w 3 _⟩;have l:g+1<=g:=(World.ownsRow.lt b.row _ i).1;omega
theorem vD{x:De}(h:(aS n Z x).e≠0):(aS n Z x).n=n/\(aS n Z x).ds=Z/\(aS n Z x).t=[]:=by
 unfold aS at*;split at h
 ·rename_i h1;rw[UY h1];simp
 ·rename_i h1;rw[UX h1];split at h
  ·rename_i h2;rw[UY h2];simp
  ·rename_i h2;rw[UX h2];split at h
   ·rename_i a;rw[UY a];simp
   ·exact absurd rfl h
def rs(w:W_)(g:Nat)(x:B8)(hv sf bk:Int)(v:V_):W_:=(((((((((((((w.setCell ⟨g,0,none⟩ (Zb 0)).setCell ⟨g,1,none⟩ (Za x.z0)).setCell ⟨g,2,none⟩ (Za x.z1)).setCell ⟨g,3,none⟩ (Za x.z2)).setCell ⟨g,4,none⟩ (Za x.z3)).setCell ⟨g,5,none⟩ (Za x.z4)).setCell ⟨g,6,none⟩ (Za x.z5)).setCell ⟨g,7,none⟩ (Za x.z6)).setCell ⟨g,8,none⟩ (Za x.z7)).setCell ⟨g,9,none⟩ (Zb hv)).setCell ⟨g,10,none⟩ (Zb sf)).setCell ⟨g,11,none⟩ (Zb bk)).setCell ⟨g,12,none⟩ (v))
theorem uP(h:Bx w g E 95)(hc:E.size=13)(x:B8)(a b c:Int):Bx (rs w g x a b c Q) g #[Zi,Za x.z0,Za x.z1,Za x.z2,Za x.z3,Za x.z4,Za x.z5,Za x.z6,Za x.z7,a,b,c,Q] 95:=by
 have d:=(((((((((((((h.set 0 (Zb 0)).set 1 (Za x.z0)).set 2 (Za x.z1)).set 3 (Za x.z2)).set 4 (Za x.z3)).set 5 (Za x.z4)).set 6 (Za x.z5)).set 7 (Za x.z6)).set 8 (Za x.z7)).set 9 (Zb a)).set 10 (Zb b)).set 11 (Zb c)).set 12 (Q));have e:(((((((((((((E.setIfInBounds 0 (.int .i64 0)).setIfInBounds 1 (.int .u8 x.z0)).setIfInBounds 2 (.int .u8 x.z1)).setIfInBounds 3 (.int .u8 x.z2)).setIfInBounds 4 (.int .u8 x.z3)).setIfInBounds 5 (.int .u8 x.z4)).setIfInBounds 6 (.int .u8 x.z5)).setIfInBounds 7 (.int .u8 x.z6)).setIfInBounds 8 (.int .u8 x.z7)).setIfInBounds 9 (.int .i64 a)).setIfInBounds 10 (.int .i64 b)).setIfInBounds 11 (.int .i64 c)).setIfInBounds 12 (Q))=#[.int .i64 0,.int .u8 x.z0,.int .u8 x.z1,.int .u8 x.z2,.int .u8 x.z3,.int .u8 x.z4,.int .u8 x.z5,.int .u8 x.z6,.int .u8 x.z7,.int .i64 a,.int .i64 b,.int .i64 c,Q]:=by
  apply TW;intro j
  match j with
  |0|1|2|3|4|5|6|7|8|9|10|11|12=>simp[hc]
  |j+13=>simp[hc]
 rw[e] at d;exact d
theorem mY:v.grownBy (rs v n d x y z Q) (some n):=by unfold rs;exact(ak (ak (ak (ak (ak (ak (ak (ak (ak (ak (ak (ak (ak (au _) _ _) _ _) _ _) _ _) _ _) _ _) _ _) _ _) _ _) _ _) _ _) _ _) _ _)
theorem IU{S:Tx}(h:Dsk w g S 0 Z):
 C_ prog 48 #[(g,0),.agg (Zp x y z d)] w λR Q=>R=Zr #[.agg Zo,Zf 5]/\H_ (OS w Q):=by
 have⟨U,bv,ab,V,X,h⟩:=h;have⟨W,f⟩:=ZX ((w.alloc (.cells (Zp x y z d) 67)).alloc (.cells Zo 95));have⟨r,e⟩:=ZX (w.heap.size+1);have a:H_ (Bx W r Zo 95):=(by rw[f,e,show w.heap.size+1=(w.alloc (.cells #[x,y,z,.int .u8 d.z0,.int .u8 d.z1,.int .u8 d.z2,.int .u8 d.z3,.int .u8 d.z4,.int .u8 d.z5,.int .u8 d.z6,.int .u8 d.z7] 67)).heap.size by simp];exact Bx.new _ _ _);have L:H_ (OS w W):=(by rw[f];exact(af).alloc (by simp) _);have T:=Y (h.later L);have c2:=T.bx.cell 2;simp only[OB,OA,Oz] at c2;have rz:=a.frozen;have j:=a.cell 0;have v:=a.cell 1;have D:=a.cell 2;have i:=a.cell 3;have k:=a.cell 4;have B:=a.cell 5;have I:=a.cell 6;have F:=a.cell 7;have p:=a.cell 8;have o:=a.cell 9;have J:=a.cell 10;have l:=a.cell 11;have s:=a.cell 12;simp only[OB,OA,Oz] at j v D i k B I F p o J l s;have⟨A,c⟩:=ZX (rs W r zB 0 0 0 Zs);have b:H_ (Bx A r Zo 95):=(by rw[c];exact uP a rfl zB 0 0 0);have P:=Y (show OS w A by rw[c];exact aM L (mY) (by rw[e];omega));clear h;go_enter func48,ntmps48;go_upto_region 1 with fail;rw[<-f,<-e];go_wp2_with fail;change bodyPost prog Tryz.f48 _ _ _ (rs W r zB 0 0 0 Zs);rw[<-c];clear j v D i k B I F p o J l s;have N:=b.cell 0;have n:=b.cell 1;have G:=b.cell 2;have u:=b.cell 3;have q:=b.cell 4;have H:=b.cell 5;have t:=b.cell 6;have M:=b.cell 7;have C:=b.cell 8;have m:=b.cell 9;have O:=b.cell 10;have E:=b.cell 11;have K:=b.cell 12;simp only[OB,OA,Oz] at N n G u q H t M C m O E K;exact UM (by simp[results,results48,go_sem,N,n,G,u,q,H,t,M,C,m,O,E,K]) rfl ⟨rfl,P⟩
end
theorem ov(b:Gv v)(n:InR x):C_ prog 31 #[Zf x] v λf q=>f=Zv (.string ⟨(Lib.itoa x).toArray⟩)/\H_ (OS v q):=by
 have⟨W,c⟩:=ZX (v.alloc (.cells #[Zi] 70));have a:=beA c;have e:=bxA c;have p:=Y (b.later a b.2.2.2);have k:=Y n;have i:=Y b;have h:W.cell? v=Zb 0:=e.cell 0;have l:=e.frozen 0;clear b n;go_enter func31,ntmps31;go_upto_region 2 with fail;rw[<-c];go_wp2_with fail;refine(CD x p.1 h l).mono ?_;rintro f j ⟨rfl,d⟩;have s:j.cell? v=Zb x:=by
  rw[d];exact(Bx.set ((((e.alloc _).alloc _).alloc _).alloc _) 0 _).cell 0
 have m:=Y (show OS v j by
  rw[d];exact((((a.alloc a.size _).alloc (by simp;have:=a.size;omega) _).alloc (by simp;have:=a.size;omega) _).alloc (by simp;have:=a.size;omega) _).setCell (OJ v) _)
 have r:=Y (mG (i.later m i.2.2.2) k.lo k.hi);clear d h l;go_wp2_with fail;refine r.mono ?_;rintro f t ⟨rfl,o⟩;go_wp2_with fail;go_ret;exact⟨rfl,m.t o⟩
