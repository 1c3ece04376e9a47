/- Part. -/
import Derived.Test.YtbicgjafjjihdaaGreatZ8
set_option maxHeartbeats 16000000
set_option maxRecDepth 100000
namespace Go.Proofs.YtbicgjafjjihdaaGreat
open Go.RowKit
section
variable {n k:Int}
theorem Bx.four {w:World} {g:Nat} {s0 s1 s2 s3:Value} {t:TypeId} (h:Bx w g #[s0,s1,s2,s3] t):w.cell? ⟨g,0,none⟩=some s0∧w.cell? ⟨g,1,none⟩=some s1∧w.cell? ⟨g,2,none⟩=some s2∧w.cell? ⟨g,3,none⟩=some s3:=⟨h.cell 0,h.cell 1,h.cell 2,h.cell 3⟩
namespace Mx
theorem m6 {b:Bu} (h:n<1∨32<n∨b.num<0∨2147483647<b.num):aJ b n=1:=by rw[aJ,if_pos h]
theorem Ei {b:Bu} (h:¬(n<1∨32<n∨b.num<0∨2147483647<b.num)) (h2:4<b.se.length):aJ b n=2:=by rw[aJ,if_neg h,if_pos h2]
theorem sO {b:Bu} (h:¬(n<1∨32<n∨b.num<0∨2147483647<b.num)) (h2:¬4<b.se.length) (h3:fi b n=false):aJ b n=3:=by rw[aJ,if_neg h,if_neg h2,h3];rfl
theorem zk {b:Bu} (h:¬(n<1∨32<n∨b.num<0∨2147483647<b.num)) (h2:¬4<b.se.length) (h3:fi b n=true):aJ b n=0:=by rw[aJ,if_neg h,if_neg h2,h3];rfl
theorem bN {b:Bu} (h:aJ b n=0):(1≤n∧n≤32∧0≤b.num∧b.num≤2147483647)∧b.se.length≤4∧fi b n=true:=by
 unfold aJ at h;split at h
 ·omega
 ·split at h
  ·omega
  ·split at h
   ·next h1 h2 h3=>exact⟨by omega,by omega,h3⟩
   ·omega
def dD (b:Bu) (n k:Int):Int:=if aJ b n=0 then (if k<0∨b.num<k then 1 else 0) else aJ b n
theorem xZ {b:Bu} (h:aJ b n=0) (hk:k<0∨b.num<k):dD b n k=1:=by rw[dD,if_pos h,if_pos hk]
theorem m9 {b:Bu} (h:aJ b n=0) (hk:¬(k<0∨b.num<k)):dD b n k=0:=by rw[dD,if_pos h,if_neg hk]
theorem AN {b:Bu} (h:aJ b n≠0):dD b n k=aJ b n:=by rw[dD,if_neg h]
theorem bW {b:Bu} (h:fi b n=true):(b.be=true→b.se=[])∧bB n b.op=true∧eo b.se b.num n=true:=by
 unfold fi at h;simp only[Bool.and_eq_true,Bool.not_eq_true',Bool.and_eq_false_iff] at h;refine⟨fun hb=>?_,h.1.2,h.2⟩;rcases h.1.1 with h1|h1
 ·rw[hb] at h1
  cases h1
 ·simpa using h1
end Mx
theorem vY (a:Option Addr) (k c:Nat) (es:List Ep) (num:Int) (n:Nat) (w:World) (he:EL w a k es) (hn:n≤1000) (h0:0≤num) (h1:num≤2147483647) :
 Calls Tryz.prog 99 #[.slice a k c,.int .i64 num,.int .i64 (n:Int)] w fun e w'=>e=.returned (.bool (Mx.eo es num n))∧Below w.heap.size w w':=by
 have hlen:k≤maxLen:=he.2.1;unfold maxLen at hlen;have HE:=aa he;have HN:=aa he.1;clear he;by_cases hk:(k:Int)≤num
 ·have hd:decide (num-(k:Int)<0)=false:=by simp;omega
  go_enter Tryz.func99,Tryz.ntmps99;go_wp2_with fail;go_loopw [18] (fun t wr=>∃ j:Nat,j≤k∧t=.int .i64 (j:Int)∧Hid (Mx.qN es num n j)∧Hid (Below w.heap.size w wr)) (fun t _=>k-(intOf t).toNat)
  case atStart=>exact⟨0,by omega,rfl,fun i hi=>absurd hi (by omega),Below.refl _ _⟩
  case round =>
   obtain⟨j,hj,rfl,hR,hB⟩:=hrel;by_cases hlt:j<k
   ·obtain⟨b,off,e,ai,ni,ci,hab,_,hx,e0,e1,hp,hc⟩:=(HE.o.later hB.o).at_ j hlt
    subst hab;obtain⟨z,ps⟩:=e;have HG:=aa (show Mx.iu n num es.length j (es.getD j Mx.dE)=(Mx.bB n ps && decide (z=num-k+1+j)) by unfold Mx.iu;rw[Fh,hx,HN.o];rfl);have HP:=aa hp;dsimp only at e0;clear hx hp;have B1:=aa (hB.o.alloc hB.o.size (.cells #[.int .i64 z,.slice ai ni ci] 148));have hji:(j:Int)<k:=by omega
    by_cases hz:z=num-k+1+j
    ·subst hz
     go_wp2_with fail;refine(mg ai ni ci ps n _ (HP.o.later (af _ _)) hn).mono ?_;rintro e w2 ⟨rfl,hb2⟩;have B2:=aa (B1.o.trans (hb2.mono B1.o.size));clear hb2 e0 e1;cases hr:Mx.bB (n:Int) ps with
     | true =>
      have HR2:=aa (Mx.uT hR.o (by rw[HG.o,hr];simp));clear hr;go_wp2_with fail;go_roundw
      case rel=>exact⟨j+1,by omega,by go_num,HR2,B2⟩
      case measure=>simp[intOf];omega
     | false =>
      have HF:=aa (Mx.rD (n:=n) (num:=num) (by rw[HN.o];exact hlt) (by rw[HG.o,hr];rfl));clear hr;go_wp2_with fail;go_ret;exact⟨by rw[HF.o]<;>rfl,B2.o⟩
    ·have hne:(z != num-(k:Int)+1+(j:Int))=true:=by simpa using hz
     have HF:=aa (Mx.rD (n:=n) (num:=num) (by rw[HN.o];exact hlt) (by rw[HG.o];simp[hz]));clear hz;go_wp2_with fail;go_ret;exact⟨by rw[HF.o]<;>rfl,B1.o⟩
   ·have HF:=aa (Mx.iS (es:=es) (num:=num) (n:=n) (by rw[HN.o];exact hk) (fun i hi=>hR.o i (by have:=HN.o;omega)))
    go_wp2_with fail;go_ret;exact⟨by rw[HF.o]<;>rfl,hB.o⟩
 ·have hd:decide (num-(k:Int)<0)=true:=by simp;omega
  have HF:=aa (Mx.Bt (es:=es) (num:=num) (n:=n) (by rw[HN.o];omega));go_enter Tryz.func99,Tryz.ntmps99;go_wp2_with fail;go_ret;exact⟨by rw[HF.o]<;>rfl,Below.refl _ _⟩
theorem kH (num:Int) (oa:Option Addr) (on oc:Nat) (sa:Option Addr) (sn sc:Nat) (be:Bool) (ops:List Pt) (es:List Ep) (n:Int) (w:World) (hp:PL w oa on ops) (he:EL w sa sn es) :
 Calls Tryz.prog 60 #[.agg #[.int .i64 num,.slice oa on oc,.slice sa sn sc,.bool be],.int .i64 n] w fun e w'=>e=.returned (bI (Mx.aJ ⟨num,ops,es,be⟩ n))∧Below w.heap.size w w':=by
 have hlen:sn≤maxLen:=he.2.1;unfold maxLen at hlen;have HP:=aa hp;have HE:=aa he;have HN:=aa he.1;clear hp he;by_cases h1:n<1
 ·have dh1:decide (n<1)=true:=by simpa using h1
  have HF:=aa (Mx.m6 (b:=⟨num,ops,es,be⟩) (n:=n) (.inl h1));go_enter Tryz.func60,Tryz.ntmps60;go_wp2_with fail;go_ret;exact⟨by rw[HF.o]<;>rfl,af _ _⟩
 have dh1:decide (n<1)=false:=by simpa using h1
 by_cases h2:32<n
 ·have dh2:decide (32<n)=true:=by simpa using h2
  have HF:=aa (Mx.m6 (b:=⟨num,ops,es,be⟩) (n:=n) (.inr (.inl h2)));go_enter Tryz.func60,Tryz.ntmps60;go_wp2_with fail;go_ret;exact⟨by rw[HF.o]<;>rfl,af _ _⟩
 have dh2:decide (32<n)=false:=by simpa using h2
 by_cases h3:num<0
 ·have dh3:decide (num<0)=true:=by simpa using h3
  have HF:=aa (Mx.m6 (b:=⟨num,ops,es,be⟩) (n:=n) (.inr (.inr (.inl h3))));go_enter Tryz.func60,Tryz.ntmps60;go_wp2_with fail;go_ret;exact⟨by rw[HF.o]<;>rfl,af _ _⟩
 have dh3:decide (num<0)=false:=by simpa using h3
 by_cases h4:2147483647<num
 ·have dh4:decide (2147483647<num)=true:=by simpa using h4
  have HF:=aa (Mx.m6 (b:=⟨num,ops,es,be⟩) (n:=n) (.inr (.inr (.inr h4))));go_enter Tryz.func60,Tryz.ntmps60;go_wp2_with fail;go_ret;exact⟨by rw[HF.o]<;>rfl,af _ _⟩
 have dh4:decide (2147483647<num)=false:=by simpa using h4
 have hrg:¬(n<1∨32<n∨num<0∨2147483647<num):=by omega
 by_cases h5:(4:Int)<sn
 ·have dh5:decide ((4:Int)<sn)=true:=by simpa using h5
  have HF:=aa (Mx.Ei (b:=⟨num,ops,es,be⟩) (n:=n) hrg (by have:=HN.o;show 4<es.length;omega));go_enter Tryz.func60,Tryz.ntmps60;go_wp2_with fail;go_ret;exact⟨by rw[HF.o]<;>rfl,af _ _⟩
 have dh5:decide ((4:Int)<sn)=false:=by simpa using h5
 have hsl:¬4<es.length:=by have:=HN.o;omega
 obtain⟨N,rfl⟩:=Int.eq_ofNat_of_zero_le (show 0≤n by omega);have hbe:be=true∧(0:Int)<sn∨be=true∧¬(0:Int)<sn∨be=false:=by cases be<;>simp;omega
 rcases hbe with ⟨rfl,hs⟩|hbe
 ·have dhs:decide ((0:Int)<sn)=true:=by simpa using hs
  have HF:=aa (Mx.sO (b:=⟨num,ops,es,true⟩) (n:=N) hrg hsl (by unfold Mx.fi;rw[show decide (0<es.length)=true by have:=HN.o;simp;omega];rfl));go_enter Tryz.func60,Tryz.ntmps60;go_wp2_with fail;go_ret;exact⟨by rw[HF.o]<;>rfl,af _ _⟩
 have HBE:=aa (show(be && decide (0<es.length))=false by
  rcases hbe with ⟨rfl,hs⟩|rfl
  ·have:=HN.o
   rw[Bool.true_and,decide_eq_false_iff_not];omega
  ·rfl)
 have HM3r:=aa (show Mx.bB (N:Int) ops=false→Mx.aJ ⟨num,ops,es,be⟩ N=3 from fun hr=>Mx.sO hrg hsl (by unfold Mx.fi;rw[hr];simp));have HM3f:=aa (show Mx.eo es num (N:Int)=false→Mx.aJ ⟨num,ops,es,be⟩ N=3 from fun hf=>Mx.sO hrg hsl (by unfold Mx.fi;rw[hf];simp));have HM0:=aa (show Mx.bB (N:Int) ops=true→Mx.eo es num (N:Int)=true→Mx.aJ ⟨num,ops,es,be⟩ N=0 from fun hr hf=>Mx.zk hrg hsl (by unfold Mx.fi;rw[hr,hf,HBE.o];rfl));have X0:=aa (Bx.new w #[.int .i64 num,.slice oa on oc,.slice sa sn sc,.bool be] 90);rcases hbe with ⟨rfl,hs⟩|rfl
 all_goals
  first|have dhs:decide ((0:Int)<sn)=false:=by simpa using hs|skip
  go_enter Tryz.func60,Tryz.ntmps60;go_wp2_with fail;refine(mg oa on oc ops N _ (HP.o.later (af _ _)) (by omega)).mono ?_;rintro e w1 ⟨rfl,hb1⟩;have X1:=aa (X0.o.later hb1 X0.o.lt);have B1:=aa ((af w _).trans (hb1.mono (by simp)));have HE1:=aa (HE.o.later B1.o);clear hb1;obtain⟨f0,f1,f2,f3⟩:=X1.o.four;cases hr:Mx.bB (N:Int) ops with
  | false =>
   have HF:=aa (HM3r.o hr);clear hr;go_wp2_with fail;go_ret;exact⟨by rw[HF.o]<;>rfl,B1.o⟩
  | true =>
   have HR:=aa hr;clear hr;go_wp2_with fail;refine(vY sa sn sc es num N w1 HE1.o (by omega) (by omega) (by omega)).mono ?_;rintro e w2 ⟨rfl,hb2⟩;have B2:=aa (B1.o.trans (hb2.mono B1.o.size));clear hb2 f0 f1 f2 f3;cases hf:Mx.eo es num (N:Int) with
   | false =>
    have HF:=aa (HM3f.o hf);clear hf;go_wp2_with fail;go_ret;exact⟨by rw[HF.o]<;>rfl,B2.o⟩
   | true =>
    have HF:=aa (HM0.o HR.o hf);clear hf;go_wp2_with fail;go_ret;exact⟨by rw[HF.o]<;>rfl,B2.o⟩
theorem iZ (num:Int) (oa:Option Addr) (on oc:Nat) (sa:Option Addr) (sn sc:Nat) (be:Bool) (ops:List Pt) (es:List Ep) (n k:Int) (w:World) (hp:PL w oa on ops) (he:EL w sa sn es) :
 Calls Tryz.prog 137 #[.agg #[.int .i64 num,.slice oa on oc,.slice sa sn sc,.bool be],.int .i64 n,.int .i64 k] w fun e w' =>
  e=.returned (bI (Mx.dD ⟨num,ops,es,be⟩ n k))∧Below w.heap.size w w':=by
 have HP:=aa hp;have HE:=aa he;clear hp he;have X0:=aa (Bx.new w #[.int .i64 num,.slice oa on oc,.slice sa sn sc,.bool be] 90);go_enter Tryz.func137,Tryz.ntmps137;go_wp2_with fail;refine(kH num oa on oc sa sn sc be ops es n _ (HP.o.later (af _ _)) (HE.o.later (af _ _))).mono ?_;rintro e w1 ⟨rfl,hb1⟩;have X1:=aa (X0.o.later hb1 X0.o.lt);have B1:=aa ((af w _).trans (hb1.mono (by simp)));clear hb1;obtain⟨f0,f1,f2,f3⟩:=X1.o.four;by_cases hb:Mx.aJ ⟨num,ops,es,be⟩ n=0
 ·have HB:=aa hb
  rw[hb,aF];clear hb;by_cases h1:k<0
  ·have dh1:decide (k<0)=true:=by simpa using h1
   have HF:=aa (Mx.xZ (b:=⟨num,ops,es,be⟩) HB.o (.inl h1));go_wp2_with fail;go_ret;exact⟨by rw[HF.o]<;>rfl,B1.o⟩
  ·have dh1:decide (k<0)=false:=by simpa using h1
   by_cases h2:num<k
   ·have dh2:decide (num<k)=true:=by simpa using h2
    have HF:=aa (Mx.xZ (b:=⟨num,ops,es,be⟩) HB.o (.inr h2));go_wp2_with fail;go_ret;exact⟨by rw[HF.o]<;>rfl,B1.o⟩
   ·have dh2:decide (num<k)=false:=by simpa using h2
    have HF:=aa (Mx.m9 (b:=⟨num,ops,es,be⟩) (k:=k) HB.o (by show ¬(k<0∨num<k);omega));go_wp2_with fail;go_ret;exact⟨by rw[HF.o]<;>rfl,B1.o⟩
 ·rw[bm hb]
  have HB:=aa hb;clear hb;go_wp2_with fail;go_ret;exact⟨by rw[Mx.AN HB.o,bm HB.o]<;>rfl,B1.o⟩
end
theorem eG (a:Option Addr) (n c:Nat) (ps:List Pt) (w:World) (hp:PL w a n ps) (hn:n≤1000) :
 Calls Tryz.prog 66 #[.slice a n c] w fun e w'=>∃ a2 c2,e=.returned (.slice a2 n c2)∧Hid (PL w' a2 n ps)∧Hid (n≤c2)∧Hid (∀ p,a2=some p→w.heap.size≤p.block)∧Hid (Below w.heap.size w w'):=by
 refine(kF a n c ps w hp (by omega)).mono ?_;rintro e w' ⟨v,rfl,ho,hb⟩;obtain⟨a2,c2,hv,hc,hr,ha⟩:=aA ho;have hl:=hp.1;rw[hl] at hv hc hr;subst hv;exact⟨a2,c2,rfl,⟨hl,hr⟩,hc,ha,hb⟩
theorem tV {B:Nat} {w w1:World} {base:Nat} {v:Value} {es:List Ep} (h:cZ B w base v es) (hle:w.heap.size≤w1.heap.size) (hB:B≤w1.heap.size) {a:Option Addr} (ha:∀ p,a=some p→w1.heap.size≤p.block) (n:Nat):0<n→∀ p,a=some p→v.ownBlock≠some p.block∧B≤p.block :=
 fun _ p hp=>⟨fun e=>by have h1:=(h.lt _ e).2;have h2:=ha p hp;omega,by have h2:=ha p hp;omega⟩
theorem eF (a:Option Addr) (k c:Nat) (es:List Ep) (w:World) (he:EL w a k es) (hk:k≤1000) (hps:∀ e∈es,e.aH.length≤1000) :
 Calls Tryz.prog 63 #[.slice a k c] w fun e w'=>∃ a' c',e=.returned (.slice a' k c')∧Hid (cZ w.heap.size w' w.heap.size (.slice a' k c') es)∧Hid (Below w.heap.size w w'):=by
 have HE:=aa he;have HN:=aa he.1;have HPS:=aa hps;clear he hps;go_enter Tryz.func63,Tryz.ntmps63;go_wp2_with fail;go_loopw [3,8] (fun s t wr=>∃ (j:Nat) (a':Option Addr) (c':Nat),j≤k∧t=.int .i64 (j:Int)∧s=.slice a' j c'∧Hid (cZ w.heap.size wr w.heap.size (.slice a' j c') (es.take j))∧Hid (Below w.heap.size w wr)) (fun _ t _=>k-(intOf t).toNat)
 case atStart=>exact⟨0,none,0,by omega,rfl,rfl,cZ.nil _ _ _,Below.refl _ _⟩
 case round =>
  obtain⟨j,a',c',hj,rfl,rfl,hO,hB⟩:=hrel;by_cases hlt:j<k
  ·obtain⟨b,off,e,ai,ni,ci,hab,_,hx,e0,e1,hp,hc⟩:=(HE.o.later hB.o).at_ j hlt
   subst hab;obtain⟨z,ps⟩:=e;have HX:=aa hx;have hpn:=HPS.o _ (Fy hx);have HNI:=aa hp.1;have hni:ni≤1000:=by have h1:ps.length=ni:=hp.1;have h2:ps.length≤1000:=hpn;omega
   have HP:=aa hp;dsimp only at e0;clear hx hp hpn;obtain⟨W1,hW1⟩:∃ W1:World,Hid (W1=wr.alloc (.cells #[.int .i64 z,.slice ai ni ci] 148)):=⟨_,rfl⟩
   have X1:=bxA hW1;have BW:=beA hW1;have B1:=aa (hB.o.trans (BW.o.mono hB.o.size));have O1:=aa (hO.o.later BW.o);have P1:=aa (HP.o.later BW.o);have hsz:=X1.o.lt;have hbs:=B1.o.size;go_wp2_with fail;rw[←hW1.o];clear e0 e1;have q0:=X1.o.cell 0;have q1:=X1.o.cell 1;simp only[Fk,Fi,Fj] at q0 q1;go_region_held3 (fun w'=>w'.cell? ⟨wr.heap.size,0,none⟩=some (.int .i64 z)∧w'.cell? ⟨wr.heap.size,1,none⟩=some (.slice ai ni ci))
    (first
      | exact ⟨q0, q1⟩
      | exact ⟨r0, r1⟩
      | exact ⟨((af w2 _).cell (p := ⟨wr.heap.size, 0, none⟩) hs2).trans r0, ((af w2 _).cell (p := ⟨wr.heap.size, 1, none⟩) hs2).trans r1⟩
      | exact ⟨(hG3.cell (a := ⟨wr.heap.size, 0, none⟩) r0 (fun e => NE2.o e.symm)), (hG3.cell (a := ⟨wr.heap.size, 1, none⟩) r1 (fun e => NE2.o e.symm))⟩)
    (first
      |(refine jS (w:=w2) rfl (.tmp 12) (.tmp 19) rfl w.heap.size w.heap.size (es.take j) ?o1 z a2 ni c2 ps ?o5 ?o6 ?o7 ?o8 ?o9 ?o10 ?_;(case o1=>exact O2.o);(case o5=>exact P2.o);(case o6=>exact C2.o);(case o7=>exact N2.o ni);(case o8=>rfl);(case o9=>have:=HN.o;rw[Fu];omega);(case o10=>exact S2.o);intro v3 w3 hO3 hG3)
      |(go_at_call 66;refine(eG ai ni ci ps W1.drew (P1.o.later (Below.refl _ _).drew) hni).mono ?_;rintro e w2 ⟨a2,c2,rfl,P2,C2,A2,B2⟩;have r0:=(B2.o.cell (p:=⟨wr.heap.size,0,none⟩) hsz).trans q0;have r1:=(B2.o.cell (p:=⟨wr.heap.size,1,none⟩) hsz).trans q1;have hs2:=Fm hsz B2.o.size;have D2:=aa (show Below W1.heap.size W1 w2 from(Below.refl _ _).drew.trans B2.o);have O2:=aa (O1.o.later D2.o);have N2:=aa (tV (w1:=W1) O1.o (Fq _) hbs A2.o);have S2:=aa (Fx hbs B2.o.size);have NE2:=aa (show(Value.slice a' j c').ownBlock≠some wr.heap.size from fun e=>by have:=(hO.o.lt _ e).2;omega)))
   all_goals
    have G3:=aa (show w2.grownBy w3 (Value.slice a' j c').ownBlock from hG3);have B3:=aa (B1.o.trans ((D2.o.mono hbs).trans ((Below.refl _ _).grown G3.o S2.o (fun i hi=>(O2.o.lt i hi).1))));obtain⟨a3,c3,hv3,_⟩:=hO3.el;have hl3:(es.take j++[(⟨z,ps⟩:Ep)]).length=j+1:=by rw[Fl,Fu];have:=HN.o;simp;omega
    rw[hl3] at hv3;subst hv3;have O3:=aa (show cZ w.heap.size w3 w.heap.size (.slice a3 (j+1) c3) (es.take (j+1)) by rw[aL _ _ _ HX.o];exact hO3);clear hO3 hG3 q0 q1 r0 r1;go_wp2_with fail;go_roundw
    case rel=>exact⟨j+1,a3,c3,by omega,by go_num,rfl,O3,B3⟩
    case measure=>simp[intOf];omega
  ·obtain rfl:j=k:=by omega
   have OF:=aa (show cZ w.heap.size wr w.heap.size (.slice a' j c') es by
    have h:=hO.o;rw[Ft (by rw[HN.o];omega)] at h;exact h)
   go_wp2_with fail;go_ret;exact⟨a',c',rfl,OF,hB⟩
theorem jT (num:Int) (oa:Option Addr) (on oc:Nat) (sa:Option Addr) (sn sc:Nat) (be:Bool) (b:Bu) (k:Int) (w:World) (hn:b.num=num) (he:EL w sa sn b.se) (hc:sn≤sc) (h0:0≤k) (hk:k≤num) (hm:num≤2147483647) (hs:sn≤1000) :
 Calls Tryz.prog 138 #[.agg #[.int .i64 num,.slice oa on oc,.slice sa sn sc,.bool be],.int .i64 k] w fun e w'=>∃ a' c',e=.returned (.slice a' (Mx.aI b k).length c')∧Hid (EL w' a' (Mx.aI b k).length (Mx.aI b k))∧Hid (Below w.heap.size w w'):=by
 have HE:=aa he;have HN:=aa he.1;have HNUM:=aa hn;clear he hn;by_cases hA:(sn:Int)≤num-k
 ·have HK:=aa (show Mx.aI b k=b.se by
   unfold Mx.aI Mx.many;rw[HN.o,HNUM.o,show sn-min (num-k).toNat sn=0 by omega,List.drop_zero])
  rw[HK.o,HN.o];have B0:=aa (af w (.cells #[.int .i64 num,.slice oa on oc,.slice sa sn sc,.bool be] 90));have HE0:=aa (HE.o.later B0.o);rcases Int.lt_or_eq_of_le hA with h1|h1
  ·go_enter Tryz.func138,Tryz.ntmps138
   go_wp2_with fail;go_ret;exact⟨sa,sc,rfl,HE0,B0⟩
  ·obtain rfl:num=k+sn:=by omega
   have hkd:k+(sn:Int)-k=sn:=by omega
   clear h1 hA;go_enter Tryz.func138,Tryz.ntmps138;go_wp2_with fail;go_ret;exact⟨sa,sc,rfl,HE0,B0⟩
 ·obtain⟨D,hD⟩:=Int.eq_ofNat_of_zero_le (show 0≤num-k by omega)
  obtain rfl:num=k+D:=by omega
  have hDs:(D:Int)<sn:=by omega
  have hDn:D<sn:=by omega
  have HK:=aa (show Mx.aI b k=b.se.drop (sn-D) by
   unfold Mx.aI Mx.many;rw[HN.o,HNUM.o,show min (k+(D:Int)-k).toNat sn=D by omega])
  have HKL:=aa (show(Mx.aI b k).length=D by rw[HK.o,List.length_drop,HN.o];omega);rw[HKL.o];obtain⟨bb,off,e,ai,ni,ci,hab,_⟩:=HE.o.at_ 0 (by omega);subst hab;have B0:=aa (af w (.cells #[.int .i64 (k+D),.slice oa on oc,.slice (some ⟨bb,off,none⟩) sn sc,.bool be] 90));have HE0:=aa (HE.o.later B0.o);obtain⟨lo,hlo⟩:∃ lo:Nat,Hid (lo=sn-D):=⟨_,rfl⟩
  have hli:(sn:Int)-D=(lo:Int):=by rw[hlo.o];omega
  have hls:lo≤sn:=by rw[hlo.o];omega
  have hsl:sn-lo=D:=by rw[hlo.o];omega
  have hkd:k+(D:Int)-k=D:=by omega
  clear hA hD;by_cases hsc:sc=lo
  ·have HD0:=aa (show D=0 by omega)
   go_enter Tryz.func138,Tryz.ntmps138;go_wp2_with fail;go_ret;exact⟨_,_,rfl,by rw[HK.o,HD0.o,Nat.sub_zero,List.drop_of_length_le (by rw[HN.o];omega)];exact⟨rfl,by unfold maxLen;omega,fun h=>absurd h (by omega)⟩,by first|exact B0|(subst hsc;exact B0)⟩
  ·have HF:=aa (show EL _ (some ⟨bb,off+lo*2,none⟩) D (b.se.drop (sn-D)) by
    have h:=HE0.o.drop lo hls;rw[hsl,hlo.o] at h;rw[hlo.o];exact h)
   go_enter Tryz.func138,Tryz.ntmps138;go_wp2_with fail;go_ret;exact⟨_,_,rfl,by rw[HK.o];exact HF,B0⟩
def Mx.small (ops:List Pt) (es:List Ep):Prop:=(∀ e∈es,e.aH.length≤100)∧es.length≤20∧ops.length≤100
section
variable {B g base c:Nat} {w w':World} {a:Option Addr} {t:TypeId} {n:Int}
def gH (B:Nat) (w:World) (v:Value) (b:Bu):Prop :=
 ∃ (oa:Option Addr) (on oc:Nat) (sa:Option Addr) (sn sc:Nat),v=.agg #[.int .i64 b.num,.slice oa on oc,.slice sa sn sc,.bool b.be]∧PL w oa on b.op∧(0<on→∀ p,oa=some p→B≤p.block)∧ELA B w sa sn b.se∧on≤oc∧sn≤sc
theorem ELA.nil (B:Nat) (w:World):ELA B w none 0 []:=⟨rfl,by unfold maxLen;omega,fun h=>absurd h (by omega)⟩
theorem ELA.lower {B':Nat} {k:Nat} {es:List Ep} (h:ELA B w a k es) (hB:B'≤B):ELA B' w a k es:=by
 obtain⟨h1,h2,h4⟩:=h;refine⟨h1,h2,fun hp=>?_⟩;obtain⟨b,off,ha,hb,hlt,hc⟩:=h4 hp;refine⟨b,off,ha,by omega,hlt,fun i e he=>?_⟩;obtain⟨ai,ni,ci,c1,c2,c3,c4,c5⟩:=hc i e he;exact⟨ai,ni,ci,c1,c2,c3,c4,fun h0 p hp=>by have:=c5 h0 p hp;omega⟩
theorem gH.zero (B:Nat) (w:World):gH B w (.agg #[.int .i64 0,.slice none 0 0,.slice none 0 0,.bool false]) Mx.zBu:=⟨none,0,0,none,0,0,rfl,PL.nil w,fun h=>absurd h (by omega),ELA.nil B w,Fq _,Fq _⟩
theorem Bx.bY {a0 a1 a2 a3:Value} (h:Bx w g #[a0,a1,a2,a3] t) (s0 s1 s2 s3:Value):Bx ((((w.setCell ⟨g,0,none⟩ s0).setCell ⟨g,1,none⟩ s1).setCell ⟨g,2,none⟩ s2).setCell ⟨g,3,none⟩ s3) g #[s0,s1,s2,s3] t :=
 (((h.set 0 s0).set 1 s1).set 2 s2).set 3 s3
def cI (w:World) (g:Nat) (s0 s1 s2 s3:Value):World:=(((w.setCell ⟨g,0,none⟩ s0).setCell ⟨g,1,none⟩ s1).setCell ⟨g,2,none⟩ s2).setCell ⟨g,3,none⟩ s3
theorem bD (h:Below B w w') (hg:B≤g) (s0 s1 s2 s3:Value):Below B w (cI w' g s0 s1 s2 s3) :=
 (((h.setCell (p:=⟨g,0,none⟩) hg _).setCell (p:=⟨g,1,none⟩) hg _).setCell (p:=⟨g,2,none⟩) hg _).setCell (p:=⟨g,3,none⟩) hg _
theorem cT (h:w.grownBy w' (some g)) (s0 s1 s2 s3:Value):w.grownBy (cI w' g s0 s1 s2 s3) (some g):=ak (ak (ak (ak h _ _) _ _) _ _) _ _
def Zc:Array Value:=(iB Mx.gT).toArray
theorem mr (w:World):(zeroValue 141).run Tryz.prog w=.ok (.agg Zc) w:=by kernel_rfl
theorem LB.new (w:World):LB (w.alloc (.cells Zc 141)) w.heap.size Mx.gT:=⟨rfl,Bx.new w _ _⟩
theorem PL.one {px:Int} {pd:B8} (h:Bx w g #[.int .i64 px,.int .u8 pd.z0,.int .u8 pd.z1,.int .u8 pd.z2,.int .u8 pd.z3,.int .u8 pd.z4,.int .u8 pd.z5,.int .u8 pd.z6,.int .u8 pd.z7] t):PL w (some ⟨g,0,none⟩) 1 [⟨px,pd⟩] :=
 ⟨rfl,by simp[fM,Pt.cs],by unfold maxLen;omega,fun _=>⟨g,0,rfl,h.lt,fun j u hj=>by rw[Nat.zero_add,h.cell];simpa [fM,Pt.cs] using hj⟩⟩
theorem jE (h:w.grownBy w' (some g)) (hg:g≤w.heap.size):Below g w w':=⟨h.os,h.tape,h.output,h.size,fun k hk=>h.block k (by omega) (fun e=>by have:k=g:=Fo e;omega)⟩
theorem PL.off {w:World} {a:Option Addr} {n:Nat} {l:List Pt} {g:Nat} (h:PL w a n l) (hg:w.heap.size≤g):0<n→∀ p,a=some p→p.block≠g:=by
 intro h0 p hp;obtain⟨b,off,ha,hlt,_⟩:=h.2.2.2 h0;rw[ha] at hp;cases hp
 intro e;change b=g at e;omega
theorem bg.full {n:Nat} {l:List Pt} (h:bg w base (.slice a n c) l):PL w a n l∧n≤c∧∀ p,a=some p→base≤p.block:=by
 obtain⟨a',c',hv,hc,hr,hp⟩:=aA h;simp only[Value.slice.injEq] at hv;obtain⟨rfl,rfl,rfl⟩:=hv;exact⟨⟨rfl,hr⟩,hc,hp⟩
theorem cZ.full {n:Nat} {es:List Ep} (h:cZ B w base (.slice a n c) es) (hB:B≤base):ELA B w a n es∧n≤c:=by
 obtain⟨a',c',hv,hc,hr⟩:=h.ela hB;simp only[Value.slice.injEq] at hv;obtain⟨rfl,rfl,rfl⟩:=hv;exact⟨hr,hc⟩
namespace Mx
def ic (b:Bu) (n:Int) (p:Pt):Int:=if aJ b n=0 then (if p.at_<0∨n≤p.at_ then 1 else 0) else aJ b n
theorem Ab {b:Bu} {p:Pt} (h:aJ b n≠0):ic b n p=aJ b n:=by rw[ic,if_neg h]
theorem rH {b:Bu} {p:Pt} (h:aJ b n=0) (hp:p.at_<0∨n≤p.at_):ic b n p=1:=by rw[ic,if_pos h,if_pos hp]
theorem zp {b:Bu} {p:Pt} (h:aJ b n=0) (hp:¬(p.at_<0∨n≤p.at_)):ic b n p=0:=by rw[ic,if_pos h,if_neg hp]
def added (b:Bu) (n:Int) (p:Pt):Bu:=if ic b n p=0 then fE b p else zBu
theorem jq {b:Bu} {p:Pt} {k:Int} (h:ic b n p=k) (hk:k≠0):added b n p=zBu:=by rw[added,if_neg (by rw[h];exact hk)]
theorem sK {b:Bu} {p:Pt} (h:ic b n p=0):added b n p=fE b p:=by rw[added,if_pos h]
end Mx
theorem uM (num:Int) (oa:Option Addr) (on oc:Nat) (sa:Option Addr) (sn sc:Nat) (be:Bool) (ops:List Pt) (es:List Ep) (n:Int) (px:Int) (pd:B8) (w:World) (hp:PL w oa on ops) (he:EL w sa sn es) (hsm:Mx.small ops es) :
 Calls Tryz.prog 39 #[.agg #[.int .i64 num,.slice oa on oc,.slice sa sn sc,.bool be],.int .i64 n,.agg #[.int .i64 px,.int .u8 pd.z0,.int .u8 pd.z1,.int .u8 pd.z2,.int .u8 pd.z3,.int .u8 pd.z4,.int .u8 pd.z5,.int .u8 pd.z6,.int .u8 pd.z7]] w fun e w' =>
  ∃ v,e=.returned (.tuple #[v,bI (Mx.ic ⟨num,ops,es,be⟩ n ⟨px,pd⟩)])∧Hid (gH w.heap.size w' v (Mx.added ⟨num,ops,es,be⟩ n ⟨px,pd⟩))∧Hid (Below w.heap.size w w'):=by
 obtain⟨w0,hw0⟩:∃ w0:World,Hid (w0=((w.alloc (.cells #[.int .i64 num,.slice oa on oc,.slice sa sn sc,.bool be] 90)).alloc (.cells #[.int .i64 px,.int .u8 pd.z0,.int .u8 pd.z1,.int .u8 pd.z2,.int .u8 pd.z3,.int .u8 pd.z4,.int .u8 pd.z5,.int .u8 pd.z6,.int .u8 pd.z7] 111)).alloc (.cells #[.int .i64 0,.slice none 0 0,.slice none 0 0,.bool false] 90)):=⟨_,rfl⟩
 have XB:=aa (show Bx w0 w.heap.size #[.int .i64 num,.slice oa on oc,.slice sa sn sc,.bool be] 90 by rw[hw0.o];exact((Bx.new w _ _).alloc _).alloc _);have XP:=aa (show Bx w0 (w.heap.size+1) #[.int .i64 px,.int .u8 pd.z0,.int .u8 pd.z1,.int .u8 pd.z2,.int .u8 pd.z3,.int .u8 pd.z4,.int .u8 pd.z5,.int .u8 pd.z6,.int .u8 pd.z7] 111 by
  rw[hw0.o];have h:=(Bx.new (w.alloc (.cells #[.int .i64 num,.slice oa on oc,.slice sa sn sc,.bool be] 90)) #[.int .i64 px,.int .u8 pd.z0,.int .u8 pd.z1,.int .u8 pd.z2,.int .u8 pd.z3,.int .u8 pd.z4,.int .u8 pd.z5,.int .u8 pd.z6,.int .u8 pd.z7] 111).alloc (.cells #[.int .i64 0,.slice none 0 0,.slice none 0 0,.bool false] 90);rw[World.size_alloc] at h;exact h)
 have XR:=aa (show Bx w0 (w.heap.size+1+1) #[.int .i64 0,.slice none 0 0,.slice none 0 0,.bool false] 90 by
  rw[hw0.o];have h:=Bx.new ((w.alloc (.cells #[.int .i64 num,.slice oa on oc,.slice sa sn sc,.bool be] 90)).alloc (.cells #[.int .i64 px,.int .u8 pd.z0,.int .u8 pd.z1,.int .u8 pd.z2,.int .u8 pd.z3,.int .u8 pd.z4,.int .u8 pd.z5,.int .u8 pd.z6,.int .u8 pd.z7] 111)) #[.int .i64 0,.slice none 0 0,.slice none 0 0,.bool false] 90;rw[World.size_alloc,World.size_alloc] at h;exact h)
 have B0:=aa (show Below w.heap.size w w0 by rw[hw0.o];exact((af _ _).alloc (by simp) _).alloc (by simp;omega) _);have HP0:=aa (hp.later B0.o);have HE0:=aa (he.later B0.o);have HEN:=aa he.1;have HPN:=aa hp.1;have HSM:=aa hsm;clear hp he hsm;go_enter Tryz.func39,Tryz.ntmps39;go_wp2_with fail;rw[←hw0.o];refine(kH num oa on oc sa sn sc be ops es n w0 HP0.o HE0.o).mono ?_;rintro e w1 ⟨rfl,hb1⟩;have XB1:=aa (XB.o.later hb1 XB.o.lt);have XP1:=aa (XP.o.later hb1 XP.o.lt);have XR1:=aa (XR.o.later hb1 XR.o.lt);have B1:=aa (B0.o.trans (hb1.mono B0.o.size));have HP1:=aa (HP0.o.later hb1);have HE1:=aa (HE0.o.later hb1);clear hb1;have hr1:w.heap.size+1+1<w1.heap.size:=XR1.o.lt;have hr0:w.heap.size<w1.heap.size:=XB1.o.lt;have hrp:w.heap.size+1<w1.heap.size:=XP1.o.lt;obtain⟨b0,b1,b2,b3⟩:=XB1.o.four;obtain⟨q0,q1,q2,q3,q4,q5,q6,q7,q8⟩:=Bx.nine (p:=⟨px,pd⟩) XP1.o;dsimp only at q0 q1 q2 q3 q4 q5 q6 q7 q8;obtain⟨r0,r1,r2,r3⟩:=XR1.o.four;have rz:=XR1.o.frozen;by_cases hb:Mx.aJ ⟨num,ops,es,be⟩ n=0
 ·have HB:=aa hb
  rw[hb,aF];clear hb;have HOK:=aa (Mx.bN HB.o);by_cases h1:px<0
  ·have dh1:decide (px<0)=true:=by simpa using h1
   have HF:=aa (Mx.rH (b:=⟨num,ops,es,be⟩) (n:=n) (p:=⟨px,pd⟩) HB.o (.inl h1));have HA:=aa (Mx.jq HF.o (by omega));go_wp2_with fail;obtain⟨t0,t1,t2,t3⟩:=(XR1.o.bY (.int .i64 0) (.slice none 0 0) (.slice none 0 0) (.bool false)).four;exact bodyPost_ret (v:=.tuple #[.agg #[.int .i64 0,.slice none 0 0,.slice none 0 0,.bool false],.iface 23 (.int .i64 1)]) (by simp[results,Tryz.results39,go_sem,t0,t1,t2,t3]) rfl ⟨_,by rw[HF.o]<;>rfl,by rw[HA.o];exact gH.zero _ _,aa (bD B1.o (by omega) _ _ _ _)⟩
  ·have dh1:decide (px<0)=false:=by simpa using h1
   by_cases h2:n≤px
   ·have dh2:decide (n≤px)=true:=by simpa using h2
    have HF:=aa (Mx.rH (b:=⟨num,ops,es,be⟩) (n:=n) (p:=⟨px,pd⟩) HB.o (.inr h2));have HA:=aa (Mx.jq HF.o (by omega));go_wp2_with fail;obtain⟨t0,t1,t2,t3⟩:=(XR1.o.bY (.int .i64 0) (.slice none 0 0) (.slice none 0 0) (.bool false)).four;exact bodyPost_ret (v:=.tuple #[.agg #[.int .i64 0,.slice none 0 0,.slice none 0 0,.bool false],.iface 23 (.int .i64 1)]) (by simp[results,Tryz.results39,go_sem,t0,t1,t2,t3]) rfl ⟨_,by rw[HF.o]<;>rfl,by rw[HA.o];exact gH.zero _ _,aa (bD B1.o (by omega) _ _ _ _)⟩
   ·have dh2:decide (n≤px)=false:=by simpa using h2
    have HF:=aa (Mx.zp (b:=⟨num,ops,es,be⟩) (p:=⟨px,pd⟩) (n:=n) HB.o (by show ¬(px<0∨n≤px);omega));have HA:=aa (Mx.sK HF.o);have HPX:=aa (show 0≤px∧px<32 by have:=HOK.o.1;omega);have HRK:=aa (Mx.nS (Mx.bW HOK.o.2.2).2.1 (by have:=HOK.o.1;omega));have hz:=mr;go_wp2_with fail;clear hz;obtain⟨W1,hW1⟩:∃ W1:World,Hid (W1=w1.alloc (.cells Zc 141)):=⟨_,rfl⟩
    rw[←hW1.o];have L1:=aa (show LB W1 w1.heap.size Mx.gT by rw[hW1.o];exact LB.new w1);have C1:=beA hW1;refine(mS w1.heap.size oa on oc ops Mx.gT W1 L1.o (HP1.o.later C1.o) (HP1.o.off (Fq _)) (Mx.kX HRK.o)).mono ?_;rintro e w2 ⟨rfl,L2,G2⟩;have C2:=aa (show Below w1.heap.size w1 w2 from C1.o.trans (jE G2.o C1.o.size));clear b0 b1 b2 b3 q0 q1 q2 q3 q4 q5 q6 q7 q8 r0 r1 r2 r3 rz;obtain⟨q0,q1,q2,q3,q4,q5,q6,q7,q8⟩:=Bx.nine (p:=⟨px,pd⟩) (XP1.o.later C2.o XP1.o.lt);dsimp only at q0 q1 q2 q3 q4 q5 q6 q7 q8;go_wp2_with fail;clear q0 q1 q2 q3 q4 q5 q6 q7 q8;obtain⟨W3,hW3⟩:∃ W3:World,Hid (W3=w2.alloc (.cells #[.int .i64 px,.int .u8 pd.z0,.int .u8 pd.z1,.int .u8 pd.z2,.int .u8 pd.z3,.int .u8 pd.z4,.int .u8 pd.z5,.int .u8 pd.z6,.int .u8 pd.z7] 111)):=⟨_,rfl⟩
    rw[←hW3.o];have C23:=beA hW3;have hg2:w1.heap.size<w2.heap.size:=L2.o.2.lt;have L3:=aa (L2.o.later C23.o hg2);have P3:=aa (show PL W3 (some ⟨w2.heap.size,0,none⟩) 1 [⟨px,pd⟩] by rw[hW3.o];exact PL.one (Bx.new w2 _ _));refine(mS w1.heap.size _ 1 1 [⟨px,pd⟩] _ W3 L3.o P3.o (fun _ p hp=>by cases hp;show ¬w2.heap.size=w1.heap.size;omega) (fun q hq=>by simp at hq;subst hq;exact HPX.o)).mono ?_;rintro e w4 ⟨rfl,L4,G4⟩;have C4:=aa (show Below w1.heap.size w1 w4 from C2.o.trans ((C23.o.mono (by omega)).trans (jE G4.o (by have:=C23.o.size;omega))));have HPA:=aa (Mx.Ac (p:=⟨px,pd⟩) HRK.o HPX.o.1 HPX.o.2);have XB4:=aa (XB1.o.later C4.o XB1.o.lt);have XR4:=aa (XR1.o.later C4.o XR1.o.lt);have HE4:=aa (HE1.o.later C4.o);have hs4:w1.heap.size≤w4.heap.size:=C4.o.size;have hs0:w.heap.size<w4.heap.size:=XB4.o.lt;have hr4:w.heap.size+1+1<w4.heap.size:=XR4.o.lt;obtain⟨b0,b1,b2,b3⟩:=XB4.o.four;have hsn:sn≤1000:=by have:=HEN.o;have:=HSM.o.2.1;omega
    have HPS:=aa (show ∀ e∈es,e.aH.length≤1000 from fun e he=>by have:=HSM.o.1 e he;omega);have hrb:¬w.heap.size+1+1=w.heap.size:=by omega
    have rz:=XR4.o.frozen;obtain⟨r0,r1,r2,r3⟩:=XR4.o.four;go_wp2_with fail;go_region_held3 (fun w'=>w'.cell? ⟨w.heap.size,0,none⟩=some (.int .i64 num)∧w'.cell? ⟨w.heap.size,1,none⟩=some (.slice oa on oc)∧w'.cell? ⟨w.heap.size,2,none⟩=some (.slice sa sn sc)∧w'.cell? ⟨w.heap.size,3,none⟩=some (.bool be))
     (first
       | with_reducible exact ⟨d0, d1, d2, d3⟩
       | with_reducible exact ⟨c0, c1, c2, c3⟩
       |(simp only[cell_drew];with_reducible exact⟨b0,b1,b2,b3⟩)
       |(simp only[au hrb];with_reducible exact⟨d0,d1,d2,d3⟩))
     (first
       |(go_at_call 62;refine(sj w1.heap.size _ w4.drew L4.o.drew).mono ?_;rintro e w5 ⟨a5,k5,rfl,O5,B5⟩;have D5:=aa (show Below w4.heap.size w4 w5 from(Below.refl _ _).drew.trans B5.o);have hs5:w.heap.size<w5.heap.size:=Fm hs0 D5.o.size;obtain⟨c0,c1,c2,c3⟩:=(XB4.o.later D5.o hs0).four;have E5:=aa (HE4.o.later D5.o))
       |(go_at_call 63;refine(eF sa sn sc es w5 E5.o hsn HPS.o).mono ?_;rintro e w6 ⟨a6,k6,rfl,O6,B6⟩;have D6:=aa (show Below w4.heap.size w4 w6 from D5.o.trans (B6.o.mono D5.o.size));obtain⟨d0,d1,d2,d3⟩:=(XB4.o.later D6.o hs0).four;have ez:=(XR4.o.later D6.o hr4).frozen;obtain⟨e0,e1,e2,e3⟩:=(XR4.o.later D6.o hr4).four;clear b0 b1 b2 b3 c0 c1 c2 c3 r0 r1 r2 r3 rz))
    all_goals
     clear e0 e1 e2 e3 d0 d1 d2 d3 ez;obtain⟨N5,hN5⟩:∃ N5:Nat,Hid (N5=(Mx.aM 0 (Mx.dt (Mx.dt Mx.gT ops) [⟨px,pd⟩])).length):=⟨_,rfl⟩
     rw[←hN5.o] at O5 ⊢;rw[HPA.o] at O5;have F5:=aa (O5.o.full);have F6:=aa (O6.o.full (Fq _));have GF:=aa (cT (ao w6 (some (w.heap.size+1+1))) (.int .i64 num) (.slice a5 N5 k5) (.slice a6 sn k6) (.bool be));have BF:=aa (show Below w.heap.size w (cI w6 (w.heap.size+1+1) (.int .i64 num) (.slice a5 N5 k5) (.slice a6 sn k6) (.bool be)) from bD (B1.o.trans ((C4.o.trans (D6.o.mono hs4)).mono (by omega))) (by omega) _ _ _ _);have XF:=aa ((XR4.o.later D6.o hr4).bY (.int .i64 num) (.slice a5 N5 k5) (.slice a6 sn k6) (.bool be));have PF:=aa (show PL (cI w6 (w.heap.size+1+1) (.int .i64 num) (.slice a5 N5 k5) (.slice a6 sn k6) (.bool be)) a5 N5 (Mx.cU ops ⟨px,pd⟩) from(F5.o.1.later B6.o).grownBy GF.o (fun _ p hp e=>by have h1:w4.heap.size≤p.block:=F5.o.2.2 p hp;have h2:w.heap.size+1+1=p.block:=Fo e;omega));have EF:=aa (show ELA w5.heap.size (cI w6 (w.heap.size+1+1) (.int .i64 num) (.slice a5 N5 k5) (.slice a6 sn k6) (.bool be)) a6 sn es from F6.o.1.grown GF.o (Fm hr4 D5.o.size));go_wp2_with fail;obtain⟨t0,t1,t2,t3⟩:=XF.o.four;exact bodyPost_ret (v:=.tuple #[.agg #[.int .i64 num,.slice a5 N5 k5,.slice a6 sn k6,.bool be],.nilIface]) (by simp[results,Tryz.results39,go_sem,t0,t1,t2,t3]) rfl ⟨_,by rw[HF.o]<;>rfl,by rw[HA.o];exact⟨a5,N5,k5,a6,sn,k6,rfl,PF.o,fun _ p hp=>by have h1:w4.heap.size≤p.block:=F5.o.2.2 p hp;omega,EF.o.lower (by have:=D5.o.size;omega),F5.o.2.1,F6.o.2⟩,BF⟩
 ·rw[bm hb]
  have HB:=aa hb;have HF:=aa (Mx.Ab (p:=⟨px,pd⟩) hb);clear hb;have HA:=aa (Mx.jq HF.o HB.o);go_wp2_with fail;obtain⟨t0,t1,t2,t3⟩:=(XR1.o.bY (.int .i64 0) (.slice none 0 0) (.slice none 0 0) (.bool false)).four;exact bodyPost_ret (v:=.tuple #[.agg #[.int .i64 0,.slice none 0 0,.slice none 0 0,.bool false],.iface 23 (.int .i64 (Mx.aJ ⟨num,ops,es,be⟩ n))]) (by simp[results,Tryz.results39,go_sem,t0,t1,t2,t3]) rfl ⟨_,by rw[HF.o,bm HB.o]<;>rfl,by rw[HA.o];exact gH.zero _ _,aa (bD B1.o (by omega) _ _ _ _)⟩
end
section
variable {n:Int}
theorem qG {w:World} {g o o':Nat} (h:¬o=o') (v:Value):(w.setCell ⟨g,o,none⟩ v).cell? ⟨g,o',none⟩=w.cell? ⟨g,o',none⟩:=World.cell?_setCell_other w ⟨g,o,none⟩ ⟨g,o',none⟩ v (fun e=>h (by cases e;rfl))
namespace Mx
def iY (b:Bu) (n:Int):Int:=if aJ b n=0 then (if b.num=2147483647 then 2 else 0) else aJ b n
theorem AO {b:Bu} (h:aJ b n≠0):iY b n=aJ b n:=by rw[iY,if_neg h]
theorem DS {b:Bu} (h:aJ b n=0) (hp:b.num=2147483647):iY b n=2:=by rw[iY,if_pos h,if_pos hp]
theorem zg {b:Bu} (h:aJ b n=0) (hp:¬b.num=2147483647):iY b n=0:=by rw[iY,if_pos h,if_neg hp]
def jZ (b:Bu) (n:Int):Bu:=if iY b n=0 then bR b else zBu
theorem m8 {b:Bu} {k:Int} (h:iY b n=k) (hk:k≠0):jZ b n=zBu:=by rw[jZ,if_neg (by rw[h];exact hk)]
theorem oT {b:Bu} (h:iY b n=0):jZ b n=bR b:=by rw[jZ,if_pos h]
end Mx
theorem Ad (num:Int) (oa:Option Addr) (on oc:Nat) (sa:Option Addr) (sn sc:Nat) (be:Bool) (ops:List Pt) (es:List Ep) (n:Int) (w:World) (hp:PL w oa on ops) (he:EL w sa sn es) (hsm:Mx.small ops es) :
 Calls Tryz.prog 41 #[.agg #[.int .i64 num,.slice oa on oc,.slice sa sn sc,.bool be],.int .i64 n] w fun e w' =>
  ∃ v,e=.returned (.tuple #[v,bI (Mx.iY ⟨num,ops,es,be⟩ n)])∧Hid (gH w.heap.size w' v (Mx.jZ ⟨num,ops,es,be⟩ n))∧Hid (Below w.heap.size w w'):=by
 obtain⟨w0,hw0⟩:∃ w0:World,Hid (w0=(w.alloc (.cells #[.int .i64 num,.slice oa on oc,.slice sa sn sc,.bool be] 90)).alloc (.cells #[.int .i64 0,.slice none 0 0,.slice none 0 0,.bool false] 90)):=⟨_,rfl⟩
 have XB:=aa (show Bx w0 w.heap.size #[.int .i64 num,.slice oa on oc,.slice sa sn sc,.bool be] 90 by rw[hw0.o];exact(Bx.new w _ _).alloc _);have XR:=aa (show Bx w0 (w.heap.size+1) #[.int .i64 0,.slice none 0 0,.slice none 0 0,.bool false] 90 by
  rw[hw0.o];have h:=Bx.new (w.alloc (.cells #[.int .i64 num,.slice oa on oc,.slice sa sn sc,.bool be] 90)) #[.int .i64 0,.slice none 0 0,.slice none 0 0,.bool false] 90;rw[World.size_alloc] at h;exact h)
 have B0:=aa (show Below w.heap.size w w0 by rw[hw0.o];exact(af _ _).alloc (by simp) _);have HP0:=aa (hp.later B0.o);have HE0:=aa (he.later B0.o);have HEN:=aa he.1;have HPN:=aa hp.1;have HSM:=aa hsm;have hsn:sn≤1000:=by have:=he.1;have:=hsm.2.1;omega
 have hon:on≤1000:=by have:=hp.1;have:=hsm.2.2;omega
 clear hp he hsm;go_enter Tryz.func41,Tryz.ntmps41;go_wp2_with fail;rw[←hw0.o];refine(kH num oa on oc sa sn sc be ops es n w0 HP0.o HE0.o).mono ?_;rintro e w1 ⟨rfl,hb1⟩;have XB1:=aa (XB.o.later hb1 XB.o.lt);have XR1:=aa (XR.o.later hb1 XR.o.lt);have B1:=aa (B0.o.trans (hb1.mono B0.o.size));have HP1:=aa (HP0.o.later hb1);have HE1:=aa (HE0.o.later hb1);clear hb1;have hr1:w.heap.size+1<w1.heap.size:=XR1.o.lt;have hr0:w.heap.size<w1.heap.size:=XB1.o.lt;have hrb:¬w.heap.size+1=w.heap.size:=by omega
 obtain⟨b0,b1,b2,b3⟩:=XB1.o.four;obtain⟨r0,r1,r2,r3⟩:=XR1.o.four;have rz:=XR1.o.frozen;by_cases hb:Mx.aJ ⟨num,ops,es,be⟩ n=0
 ·have HB:=aa hb
  rw[hb,aF];clear hb;have HOK:=aa (Mx.bN HB.o);have hnum:num≤2147483647:=HOK.o.1.2.2.2;have hnum0:0≤num:=HOK.o.1.2.2.1;have hs4:sn≤4:=by have h1:es.length≤4:=HOK.o.2.1;have:=HEN.o;omega
  by_cases h1:num=2147483647
  ·have HF:=aa (Mx.DS (b:=⟨num,ops,es,be⟩) HB.o h1)
   subst h1;have HA:=aa (Mx.m8 HF.o (by omega));go_wp2_with fail;obtain⟨t0,t1,t2,t3⟩:=(XR1.o.bY (.int .i64 0) (.slice none 0 0) (.slice none 0 0) (.bool false)).four;exact bodyPost_ret (v:=.tuple #[.agg #[.int .i64 0,.slice none 0 0,.slice none 0 0,.bool false],.iface 23 (.int .i64 2)]) (by simp[results,Tryz.results41,go_sem,t0,t1,t2,t3]) rfl ⟨_,by rw[HF.o]<;>rfl,by rw[HA.o];exact gH.zero _ _,aa (bD B1.o (by omega) _ _ _ _)⟩
  ·have dh1:(num==2147483647)=false:=by simpa using h1
   have HF:=aa (Mx.zg (b:=⟨num,ops,es,be⟩) HB.o h1);have HA:=aa (Mx.oT HF.o);by_cases hfull:be=true∨sn=4
   ·have HFU:=aa (show Mx.bR ⟨num,ops,es,be⟩=⟨num+1,[],[],true⟩ by
     unfold Mx.bR;rw[show Mx.dy ⟨num,ops,es,be⟩=true by
      unfold Mx.dy;rcases hfull with h|h
      ·simp[h]
      ·simp[HEN.o,h]]
     rfl)
    have hcase:be=true∨be=false∧sn=4:=by
     cases be
     ·right
      simpa using hfull
     ·exact .inl rfl
    have HX:=aa (show Bx w1 (w.heap.size+1) #[.int .i64 0,.slice none 0 0,.slice none 0 0,.bool false] 90 from XR1.o);clear hfull;rcases hcase with rfl|⟨rfl,rfl⟩
    all_goals
     go_wp2_with fail;obtain⟨t0,t1,t2,t3⟩:=((HX.o.bY (.int .i64 (num+1)) (.slice none 0 0) (.slice none 0 0) (.bool true)).alloc (.cells #[.int .i64 (num+1),.slice none 0 0,.slice none 0 0,.bool true] 90)).four;exact bodyPost_ret (v:=.tuple #[.agg #[.int .i64 (num+1),.slice none 0 0,.slice none 0 0,.bool true],.nilIface]) (by simp[results,Tryz.results41,go_sem,t0,t1,t2,t3]) rfl ⟨_,by rw[HF.o]<;>rfl,by rw[HA.o,HFU.o];exact⟨none,0,0,none,0,0,rfl,PL.nil _,fun h=>absurd h (by omega),ELA.nil _ _,Fq _,Fq _⟩,aa ((bD B1.o (by omega) _ _ _ _).alloc (bD B1.o (by omega) _ _ _ _).size _)⟩
   ·have hbe:be=false:=by cases be<;>simp_all
    have h4:¬sn=4:=fun h=>hfull (.inr h)
    have d4:((sn:Int)==4)=false:=by simp;omega
    have HFU:=aa (show Mx.bR ⟨num,ops,es,be⟩=⟨num+1,[],es++[⟨num+1,ops⟩],false⟩ by
     unfold Mx.bR;rw[show Mx.dy ⟨num,ops,es,be⟩=false by
      unfold Mx.dy;rw[hbe,HEN.o];simp[h4]]
     rfl)
    subst hbe;clear hfull h4;go_wp2_with fail;obtain⟨W2,hW2⟩:∃ W2:World,Hid (W2=w1.alloc (.cells #[.int .i64 (num+1),.slice none 0 0,.slice none 0 0,.bool false] 90)):=⟨_,rfl⟩
    rw[←hW2.o];have XN:=bxA hW2;have D2:=beA hW2;have XB2:=aa (XB1.o.later D2.o hr0);have XR2:=aa (XR1.o.later D2.o hr1);have HP2:=aa (HP1.o.later D2.o);have HE2:=aa (HE1.o.later D2.o);have hnl:w1.heap.size<W2.heap.size:=XN.o.lt;have hbl:w.heap.size<W2.heap.size:=XB2.o.lt;have hrl:w.heap.size+1<W2.heap.size:=XR2.o.lt;have hnb:¬w1.heap.size=w.heap.size:=by omega
    have hnr:¬w1.heap.size=w.heap.size+1:=by omega
    have HPS:=aa (show ∀ e∈es,e.aH.length≤1000 from fun e he=>by have:=HSM.o.1 e he;omega);clear b0 b1 b2 b3 r0 r1 r2 r3 rz;obtain⟨_,b1,b2,_⟩:=XB2.o.four;obtain⟨n0,_,_,_⟩:=XN.o.four;go_region_held3 (fun w'=>w'.cell? ⟨w.heap.size,1,none⟩=some (.slice oa on oc)∧w'.cell? ⟨w.heap.size,2,none⟩=some (.slice sa sn sc)∧w'.cell? ⟨w1.heap.size,0,none⟩=some (.int .i64 (num+1)))
     (first
       | with_reducible exact ⟨e1, e2, e0⟩
       | with_reducible exact ⟨d1, d2, d0⟩
       | with_reducible exact ⟨c1, c2, c0⟩
       |(simp only[cell_drew];with_reducible exact⟨b1,b2,n0⟩)
       |(simp only[aq hs4b,aq hs4n];with_reducible exact⟨d1,d2,d0⟩)
       |(simp only[au hnb,qG (show ¬2=0 by omega)];with_reducible exact⟨e1,e2,e0⟩))
     (first
       |(go_at_call 63;refine(eF sa sn sc es W2.drew (HE2.o.later (Below.refl _ _).drew) hsn HPS.o).mono ?_;rintro e w3 ⟨a3,k3,rfl,O3,B3⟩;have D3:=aa (show Below W2.heap.size W2 w3 from(Below.refl _ _).drew.trans B3.o);obtain⟨_,c1,c2,_⟩:=(XB2.o.later D3.o hbl).four;obtain⟨c0,_,_,_⟩:=(XN.o.later D3.o hnl).four;have P3:=aa (HP2.o.later D3.o))
       |(go_at_call 66;refine(eG oa on oc ops w3 P3.o hon).mono ?_;rintro e w4 ⟨a4,k4,rfl,P4,C4,A4,B4⟩;have D4:=aa (show Below W2.heap.size W2 w4 from D3.o.trans (B4.o.mono D3.o.size));obtain⟨_,d1,d2,_⟩:=(XB2.o.later D4.o hbl).four;obtain⟨d0,_,_,_⟩:=(XN.o.later D4.o hnl).four;have O4:=aa (O3.o.later B4.o);have N4:=aa (tV (w1:=w3) O3.o (Fq _) D3.o.size A4.o);have hs4b:w.heap.size<w4.heap.size:=Fm hbl D4.o.size;have hs4n:w1.heap.size<w4.heap.size:=Fm hnl D4.o.size)
       |(refine jS (w:=w4) rfl (.tmp 37) (.tmp 44) rfl W2.drew.heap.size W2.drew.heap.size es ?o1 (num+1) a4 on k4 ops ?o5 ?o6 ?o7 ?o8 ?o9 ?o10 ?_;(case o1=>exact O4.o);(case o5=>exact P4.o);(case o6=>exact C4.o);(case o7=>exact N4.o on);(case o8=>rfl);(case o9=>have:=HEN.o;omega);(case o10=>exact D4.o.size);intro v5 w5 hO5 hG5;have D5:=aa (show Below W2.heap.size W2 w5 from D4.o.trans ((Below.refl _ _).grown hG5 D4.o.size (fun i hi=>(O4.o.lt i hi).1)));obtain⟨_,e1,e2,_⟩:=(XB2.o.later D5.o hbl).four;obtain⟨e0,n1,n2,n3⟩:=(XN.o.later D5.o hnl).four;have nz:=(XN.o.later D5.o hnl).frozen;obtain⟨a5,k5,hv5,hk5,hE5⟩:=hO5.ela (Fq _);rw[Fl,List.length_singleton,HEN.o] at hv5 hk5 hE5;subst hv5;have E5:=aa hE5;have K5:=aa hk5;clear hO5 hG5 hE5 hk5 b1 b2 n0 c0 c1 c2 d0 d1 d2))
    all_goals
     have XN6:=aa (show Bx (w5.setCell ⟨w1.heap.size,2,none⟩ (.slice a5 (sn+1) k5)) w1.heap.size #[.int .i64 (num+1),.slice none 0 0,.slice a5 (sn+1) k5,.bool false] 90 from(XN.o.later D5.o hnl).set 2 _);have XR6:=aa (show Bx (w5.setCell ⟨w1.heap.size,2,none⟩ (.slice a5 (sn+1) k5)) (w.heap.size+1) _ _ from(XR2.o.later D5.o hrl).other ⟨w1.heap.size,2,none⟩ _ (fun e=>hnr e.symm));obtain⟨W6,hW6⟩:∃ W6:World,Hid (W6=w5.setCell ⟨w1.heap.size,2,none⟩ (.slice a5 (sn+1) k5)):=⟨_,rfl⟩
     have G6:=aa (show w5.grownBy W6 (some w1.heap.size) by rw[hW6.o];exact ak (ao _ _) _ _);have B6:=aa (show Below w.heap.size w W6 by rw[hW6.o];exact(B1.o.trans ((D2.o.trans (D5.o.mono (by omega))).mono (by omega))).setCell (by show w.heap.size≤w1.heap.size;omega) _);rw[←hW6.o] at XN6 XR6 ⊢;clear e0 e1 e2 n1 n2 n3 nz;obtain⟨m0,m1,m2,m3⟩:=XN6.o.four;obtain⟨r0,r1,r2,r3⟩:=XR6.o.four;have rz:=XR6.o.frozen;have EF:=aa (show ELA W2.drew.heap.size (cI W6 (w.heap.size+1) (.int .i64 (num+1)) (.slice none 0 0) (.slice a5 (sn+1) k5) (.bool false)) a5 (sn+1) (es++[⟨num+1,ops⟩]) from(E5.o.grown G6.o hnl).grown (cT (ao W6 (some (w.heap.size+1))) _ _ _ _) hrl);have BF:=aa (show Below w.heap.size w (cI W6 (w.heap.size+1) (.int .i64 (num+1)) (.slice none 0 0) (.slice a5 (sn+1) k5) (.bool false)) from bD B6.o (by omega) _ _ _ _);go_wp2_with fail;obtain⟨t0,t1,t2,t3⟩:=(XR6.o.bY (.int .i64 (num+1)) (.slice none 0 0) (.slice a5 (sn+1) k5) (.bool false)).four;exact bodyPost_ret (v:=.tuple #[.agg #[.int .i64 (num+1),.slice none 0 0,.slice a5 (sn+1) k5,.bool false],.nilIface]) (by simp[results,Tryz.results41,go_sem,t0,t1,t2,t3]) rfl ⟨_,by rw[HF.o]<;>rfl,by rw[HA.o,HFU.o];exact⟨none,0,0,a5,sn+1,k5,rfl,PL.nil _,fun h=>absurd h (by omega),EF.o.lower (by show w.heap.size≤W2.heap.size;omega),Fq _,K5.o⟩,BF⟩
 ·rw[bm hb]
  have HB:=aa hb;have HF:=aa (Mx.AO hb);clear hb;have HA:=aa (Mx.m8 HF.o HB.o);go_wp2_with fail;obtain⟨t0,t1,t2,t3⟩:=(XR1.o.bY (.int .i64 0) (.slice none 0 0) (.slice none 0 0) (.bool false)).four;exact bodyPost_ret (v:=.tuple #[.agg #[.int .i64 0,.slice none 0 0,.slice none 0 0,.bool false],.iface 23 (.int .i64 (Mx.aJ ⟨num,ops,es,be⟩ n))]) (by simp[results,Tryz.results41,go_sem,t0,t1,t2,t3]) rfl ⟨_,by rw[HF.o,bm HB.o]<;>rfl,by rw[HA.o];exact gH.zero _ _,aa (bD B1.o (by omega) _ _ _ _)⟩
end
section
variable {w1 w2:World} {n k:Int}
theorem iA (h:Below w1.drew.heap.size w1.drew w2):Below w1.heap.size w1 w2:=(Below.refl _ _).drew.trans h
theorem fQ {o:Obj} (h:Below (w1.alloc o).drew.heap.size (w1.alloc o).drew w2):Below w1.heap.size w1 w2:=(af w1 o).drew.trans (h.mono (by show w1.heap.size≤(w1.alloc o).heap.size;simp))
namespace Mx
def dropped (b:Bu) (n k:Int):Bu:=if dD b n k=0 then cE b k else zBu
theorem tA {b:Bu} {j:Int} (h:dD b n k=j) (hk:j≠0):dropped b n k=zBu:=by rw[dropped,if_neg (by rw[h];exact hk)]
theorem nP {b:Bu} (h:dD b n k=0):dropped b n k=cE b k:=by rw[dropped,if_pos h]
theorem uG {b:Bu} (h:dD b n k=0):aJ b n=0∧0≤k∧k≤b.num:=by
 unfold dD at h;split at h
 ·next h1 =>
  split at h
  ·omega
  ·exact⟨h1,by omega,by omega⟩
 ·omega
theorem lj {b:Bu}:(aI b k).length≤b.se.length:=by
 unfold aI;rw[List.length_drop];omega
theorem lB {b:Bu}:∀ e∈aI b k,e∈b.se:=fun _ he=>List.mem_of_mem_drop he
end Mx
theorem Bi (num:Int) (oa:Option Addr) (on oc:Nat) (sa:Option Addr) (sn sc:Nat) (be:Bool) (ops:List Pt) (es:List Ep) (n:Int) (k:Int) (w:World) (hp:PL w oa on ops) (he:EL w sa sn es) (hsm:Mx.small ops es) (hsc:sn≤sc) :
 Calls Tryz.prog 116 #[.agg #[.int .i64 num,.slice oa on oc,.slice sa sn sc,.bool be],.int .i64 n,.int .i64 k] w fun e w' =>
  ∃ v,e=.returned (.tuple #[v,bI (Mx.dD ⟨num,ops,es,be⟩ n k)])∧Hid (gH w.heap.size w' v (Mx.dropped ⟨num,ops,es,be⟩ n k))∧Hid (Below w.heap.size w w'):=by
 obtain⟨w0,hw0⟩:∃ w0:World,Hid (w0=(w.alloc (.cells #[.int .i64 num,.slice oa on oc,.slice sa sn sc,.bool be] 90)).alloc (.cells #[.int .i64 0,.slice none 0 0,.slice none 0 0,.bool false] 90)):=⟨_,rfl⟩
 have XB:=aa (show Bx w0 w.heap.size #[.int .i64 num,.slice oa on oc,.slice sa sn sc,.bool be] 90 by rw[hw0.o];exact(Bx.new w _ _).alloc _);have XR:=aa (show Bx w0 (w.heap.size+1) #[.int .i64 0,.slice none 0 0,.slice none 0 0,.bool false] 90 by
  rw[hw0.o];have h:=Bx.new (w.alloc (.cells #[.int .i64 num,.slice oa on oc,.slice sa sn sc,.bool be] 90)) #[.int .i64 0,.slice none 0 0,.slice none 0 0,.bool false] 90;rw[World.size_alloc] at h;exact h)
 have B0:=aa (show Below w.heap.size w w0 by rw[hw0.o];exact(af _ _).alloc (by simp) _);have HP0:=aa (hp.later B0.o);have HE0:=aa (he.later B0.o);have HEN:=aa he.1;have HPN:=aa hp.1;have HSM:=aa hsm;have hsn:sn≤1000:=by have:=he.1;have:=hsm.2.1;omega
 have hon:on≤1000:=by have:=hp.1;have:=hsm.2.2;omega
 clear hp he hsm;go_enter Tryz.func116,Tryz.ntmps116;go_wp2_with fail;rw[←hw0.o];refine(iZ num oa on oc sa sn sc be ops es n k w0 HP0.o HE0.o).mono ?_;rintro e w1 ⟨rfl,hb1⟩;have XB1:=aa (XB.o.later hb1 XB.o.lt);have XR1:=aa (XR.o.later hb1 XR.o.lt);have B1:=aa (B0.o.trans (hb1.mono B0.o.size));have HP1:=aa (HP0.o.later hb1);have HE1:=aa (HE0.o.later hb1);clear hb1;have hr1:w.heap.size+1<w1.heap.size:=XR1.o.lt;have hr0:w.heap.size<w1.heap.size:=XB1.o.lt;have hrb:¬w.heap.size+1=w.heap.size:=by omega
 obtain⟨b0,b1,b2,b3⟩:=XB1.o.four;obtain⟨r0,r1,r2,r3⟩:=XR1.o.four;have rz:=XR1.o.frozen;by_cases hb:Mx.dD ⟨num,ops,es,be⟩ n k=0
 ·have HF:=aa hb
  have HA:=aa (Mx.nP hb);obtain⟨hb1,hk0,hkn⟩:=Mx.uG hb;rw[hb,aF];clear hb;have HOK:=aa (Mx.bN hb1);have hnum:num≤2147483647:=HOK.o.1.2.2.2;have HPS:=aa (show ∀ e∈Mx.aI ⟨num,ops,es,be⟩ k,e.aH.length≤1000 from fun e he=>by have:=HSM.o.1 e (Mx.lB e he);omega);have HKL:=aa (show(Mx.aI ⟨num,ops,es,be⟩ k).length≤1000 by have h1:=Mx.lj (b:=⟨num,ops,es,be⟩) (k:=k);have h2:es.length=sn:=HEN.o;have h3:(Mx.aI ⟨num,ops,es,be⟩ k).length≤es.length:=h1;omega);clear hb1;obtain⟨bq,hbq⟩:∃ bq:Bool,Hid (bq=(be && decide (k≠num))):=⟨_,rfl⟩
  have HDB:=aa (show Mx.cE ⟨num,ops,es,be⟩ k=⟨num,ops,Mx.aI ⟨num,ops,es,be⟩ k,bq⟩ by unfold Mx.cE;rw[hbq.o]);obtain⟨KE,hKE⟩:∃ KE,Hid (KE=Mx.aI ⟨num,ops,es,be⟩ k):=⟨_,rfl⟩
  rw[←hKE.o] at HDB HPS HKL;have KB:=fun(w:World) (he:EL w sa sn es)=>jT num oa on oc sa sn sc be ⟨num,ops,es,be⟩ k w rfl he hsc hk0 hkn hnum hsn
  have HKB:=aa KB;clear KB;rw[←hKE.o] at HKB;cases be with
  | false =>
   have Dbq:=aa (show bq=false by rw[hbq.o];rfl);clear r0 r1 r2 r3 rz;go_wp2_with fail;refine wp_region_held_drew (S:=(fun w'=>w'.cell? ⟨w.heap.size,0,none⟩=some (.int .i64 num)∧w'.cell? ⟨w.heap.size,1,none⟩=some (.slice oa on oc)∧w'.cell? ⟨w.heap.size,3,none⟩=some (.bool false))) (by kernel_rfl) ?_ (fun hHeld=>?_)
   ·exact⟨b0,b1,b3⟩
   refine wpAnyH_take (i:=0) (oi:=_) (v:=?v0f) rfl (by kernel_rfl) (by kernel_rfl) (by kernel_rfl) (fun _ _ _ h=>h) (Or.inl ⟨by rfl,?y0f⟩) (by assumption) ?r0f;case y0f =>
    intro w hSw
    (try dsimp only at hSw)
    go_simp
    first|done|with_reducible rfl
   skip
   refine wpAnyH_take (i:=1) (oi:=_) (v:=?v1f) rfl (by kernel_rfl) (by kernel_rfl) (by kernel_rfl) (fun _ _ _ h=>h) (Or.inl ⟨by rfl,?y1f⟩) (by assumption) ?r1f;case y1f =>
    intro w hSw
    (try dsimp only at hSw)
    go_simp
    first|done|with_reducible rfl
   skip
   refine wpAnyH_take (i:=2) (oi:=_) (v:=?v2f) rfl (by kernel_rfl) (by kernel_rfl) (by kernel_rfl) (fun _ _ _ h=>h) (Or.inl ⟨by rfl,?y2f⟩) (by assumption) ?r2f;case y2f =>
    intro w hSw
    (try dsimp only at hSw)
    go_simp
    first|done|with_reducible rfl
   skip
   refine wpAnyH_take (i:=3) (oi:=_) (v:=?v3f) rfl (by kernel_rfl) (by kernel_rfl) (by kernel_rfl) (fun _ _ _ h=>h) (Or.inl ⟨by rfl,?y3f⟩) (by assumption) ?r3f;case y3f =>
    intro w hSw
    (try dsimp only at hSw)
    go_simp
    first|done|with_reducible rfl
   skip
   refine wpAnyH_take (i:=5) (oi:=_) (v:=?v5f) rfl (by kernel_rfl) (by kernel_rfl) (by kernel_rfl) (fun _ _ _ h=>h) (Or.inl ⟨by rfl,?y5f⟩) (by assumption) ?r5f;case y5f =>
    intro w hSw
    (try dsimp only at hSw)
    go_simp
    first|done|with_reducible rfl
   skip
   refine wpAnyH_take (i:=6) (oi:=_) (v:=?v6f) rfl (by kernel_rfl) (by kernel_rfl) (by kernel_rfl) (fun _ _ _ h=>h) (Or.inl ⟨by rfl,?y6f⟩) (by assumption) ?r6f;case y6f =>
    intro w hSw
    (try dsimp only at hSw)
    go_simp
    first|done|with_reducible rfl
   skip
   refine wpAnyH_ready (rs:=[4,14]) (by kernel_rfl) (by simp) ?_;refine AllReadyH.cons (o:=_) rfl (fun K hK=>?_) (AllReadyH.cons (o:=_) rfl (fun K hK=>?_) AllReadyH.nil)
   ·go_simp
    (go_at_call 66;refine(eG oa on oc ops w1.drew (HP1.o.later (Below.refl _ _).drew) hon).mono ?_;rintro e w2 ⟨a2,k2,rfl,P2,C2,A2,B2⟩;have D2:=aa (iA B2.o);have hs2:w.heap.size<w2.heap.size:=Fm hr0 D2.o.size;obtain⟨c0,c1,c2,c3⟩:=(XB1.o.later D2.o hr0).four)
    refine hK.out _ _ ?_ (fun hHeld=>?_)
    ·exact⟨c0,c1,c3⟩
    clear hK K;refine wpAnyH_take (i:=7) (oi:=_) (v:=?v7bf) rfl (by kernel_rfl) (by kernel_rfl) (by kernel_rfl) (fun _ _ _ h=>h) (Or.inl ⟨by rfl,?y7bf⟩) (by assumption) ?r7bf;case y7bf =>
     intro w hSw
     (try dsimp only at hSw)
     go_simp
     first|done|with_reducible rfl
    skip
    refine wpAnyH_take (i:=8) (oi:=_) (v:=undef) rfl (by kernel_rfl) (by kernel_rfl) (by kernel_rfl) (fun _ _ _ h=>h) (Or.inr ⟨by rfl,rfl⟩) (by assumption) ?_;skip
    refine wpAnyH_take (i:=9) (oi:=_) (v:=undef) rfl (by kernel_rfl) (by kernel_rfl) (by kernel_rfl) (fun _ _ _ h=>h) (Or.inr ⟨by rfl,rfl⟩) (by assumption) ?_;skip
    refine wpAnyH_take (i:=10) (oi:=_) (v:=undef) rfl (by kernel_rfl) (by kernel_rfl) (by kernel_rfl) (fun _ _ _ h=>h) (Or.inr ⟨by rfl,rfl⟩) (by assumption) ?_;skip
    refine wpAnyH_take (i:=11) (oi:=_) (v:=undef) rfl (by kernel_rfl) (by kernel_rfl) (by kernel_rfl) (fun _ _ _ h=>h) (Or.inr ⟨by rfl,rfl⟩) (by assumption) ?_;skip
    refine wpAnyH_take (i:=12) (oi:=_) (v:=?v12bf) rfl (by kernel_rfl) (by kernel_rfl) (by kernel_rfl) (fun _ _ _ h=>h) (Or.inl ⟨by rfl,?y12bf⟩) (by assumption) ?r12bf;case y12bf =>
     intro w hSw
     (try dsimp only at hSw)
     go_simp
     first|done|with_reducible rfl
    skip
    refine wpAnyH_take (i:=13) (oi:=_) (v:=?v13bf) rfl (by kernel_rfl) (by kernel_rfl) (by kernel_rfl) (fun _ _ _ h=>h) (Or.inl ⟨by rfl,?y13bf⟩) (by assumption) ?r13bf;case y13bf =>
     intro w hSw
     (try dsimp only at hSw)
     go_simp
     first|done|with_reducible rfl
    skip
    refine wpAnyH_ready (rs:=[14]) (by kernel_rfl) (by simp) ?_;refine AllReadyH.cons (o:=_) rfl (fun K hK=>?_) AllReadyH.nil;go_simp
    skip
    refine hK.out _ _ ?_ (fun hHeld=>?_)
    ·(simp only[aq hs2];exact⟨c0,c1,c3⟩)
    clear hK K;refine wpAnyH_ready (rs:=[15]) (by kernel_rfl) (by simp) ?_;refine AllReadyH.cons (o:=_) rfl (fun K hK=>?_) AllReadyH.nil;go_simp
    skip
    refine hK.out _ _ ?_ (fun hHeld=>?_)
    ·(simp only[aq hs2];exact⟨c0,c1,c3⟩)
    clear hK K;refine wpAnyH_done (by kernel_rfl) ?_ _;obtain⟨W3,hW3⟩:∃ W3:World,Hid (W3=w2.alloc (.cells #[.int .i64 num,.slice a2 on k2,.slice none 0 0,.bool false] 90)):=⟨_,rfl⟩
    skip
    rw[←hW3.o];have hg1:w1.heap.size≤w2.heap.size:=D2.o.size;have XN3:=bxA hW3;have D3:=aa (show Below w1.heap.size w1 W3 by rw[hW3.o];exact D2.o.trans ((af w2 _).mono D2.o.size));have P3:=aa (show PL W3 a2 on ops by rw[hW3.o];exact P2.o.later (af w2 _));have A3:=aa (show 0<on→∀ p,a2=some p→w1.heap.size≤p.block∧p.block≠w2.heap.size from fun h0 p hp=>⟨A2.o p hp,fun e=>by obtain⟨b,off,ha,hlt,_⟩:=P2.o.2.2.2 h0;rw[ha] at hp;cases hp;change b=w2.heap.size at e;omega⟩);have XB3:=aa (XB1.o.later D3.o hr0);have XR3:=aa (XR1.o.later D3.o hr1);have HE3:=aa (HE1.o.later D3.o);have hr3:w.heap.size+1<W3.heap.size:=XR3.o.lt;have hg3:w2.heap.size<W3.heap.size:=XN3.o.lt;have hgr:¬w2.heap.size=w.heap.size+1:=by omega
    clear b0 b1 b2 b3 c0 c1 c2 c3;obtain⟨b0,b1,b2,b3⟩:=XB3.o.four;go_wp2_with fail;refine(HKB.o W3 HE3.o).mono ?_;rintro e w4 ⟨a4,k4,rfl,E4,B4⟩;clear b0 b1 b2 b3;go_wp2_with fail;refine(eF a4 KE.length k4 KE w4 E4.o HKL.o HPS.o).mono ?_;rintro e w5 ⟨a5,k5,rfl,O5,B5⟩;have D5:=aa (show Below W3.heap.size W3 w5 from B4.o.trans (B5.o.mono B4.o.size));have XN5:=aa (XN3.o.later D5.o hg3);have XR5:=aa (XR3.o.later D5.o hr3);have F5:=aa (O5.o.full (Fq _));have hg4:w2.heap.size<w4.heap.size:=Fm hg3 B4.o.size;have hr4:w.heap.size+1<w4.heap.size:=Fm hr3 B4.o.size;obtain⟨W6,hW6⟩:∃ W6:World,Hid (W6=w5.setCell ⟨w2.heap.size,2,none⟩ (.slice a5 KE.length k5)):=⟨_,rfl⟩
    have G6:=aa (show w5.grownBy W6 (some w2.heap.size) by rw[hW6.o];exact ak (ao _ _) _ _);have XN6:=aa (show Bx W6 w2.heap.size #[.int .i64 num,.slice a2 on k2,.slice a5 KE.length k5,.bool false] 90 by rw[hW6.o];exact XN5.o.set 2 _);have XR6:=aa (show Bx W6 (w.heap.size+1) #[.int .i64 0,.slice none 0 0,.slice none 0 0,.bool false] 90 by rw[hW6.o];exact XR5.o.other ⟨w2.heap.size,2,none⟩ _ (fun e=>hgr e.symm));have B6:=aa (show Below w.heap.size w W6 by rw[hW6.o];exact(B1.o.trans ((D3.o.trans (D5.o.mono D3.o.size)).mono (by omega))).setCell (by show w.heap.size≤w2.heap.size;omega) _);obtain⟨n0,n1,n2,n3⟩:=XN5.o.four;have nz:=XN5.o.frozen;obtain⟨r0,r1,r2,r3⟩:=XR5.o.four;have rz:=XR5.o.frozen;have hrg:¬w.heap.size+1=w2.heap.size:=fun e=>hgr e.symm
    have GF:=aa (cT (ao W6 (some (w.heap.size+1))) (.int .i64 num) (.slice a2 on k2) (.slice a5 KE.length k5) (.bool false));have EF:=aa (show ELA w.heap.size (cI W6 (w.heap.size+1) (.int .i64 num) (.slice a2 on k2) (.slice a5 KE.length k5) (.bool false)) a5 KE.length KE from((F5.o.1.grown G6.o hg4).grown GF.o hr4).lower (by omega));have PF:=aa (show PL (cI W6 (w.heap.size+1) (.int .i64 num) (.slice a2 on k2) (.slice a5 KE.length k5) (.bool false)) a2 on ops from((P3.o.later D5.o).grownBy G6.o (fun h0 p hp e=>(A3.o h0 p hp).2 (Fo e).symm)).grownBy GF.o (fun h0 p hp e=>by have h1:=(A3.o h0 p hp).1;have h2:w.heap.size+1=p.block:=Fo e;omega));have BF:=aa (show Below w.heap.size w (cI W6 (w.heap.size+1) (.int .i64 num) (.slice a2 on k2) (.slice a5 KE.length k5) (.bool false)) from bD B6.o (by omega) _ _ _ _);go_wp2_with fail;rw[←hW6.o];obtain⟨t0,t1,t2,t3⟩:=(XR6.o.bY (.int .i64 num) (.slice a2 on k2) (.slice a5 KE.length k5) (.bool false)).four;exact bodyPost_ret (v:=.tuple #[.agg #[.int .i64 num,.slice a2 on k2,.slice a5 KE.length k5,.bool false],.nilIface]) (by simp[results,Tryz.results116,go_sem,t0,t1,t2,t3]) rfl ⟨_,by rw[HF.o]<;>rfl,by rw[HA.o,HDB.o,Dbq.o];exact⟨a2,on,k2,a5,KE.length,k5,rfl,PF.o,fun h0 p hp=>by have h1:=(A3.o h0 p hp).1;omega,EF.o,C2.o,F5.o.2⟩,BF⟩
   ·go_simp
    skip
    refine hK.out _ _ ?_ (fun hHeld=>?_)
    ·(simp only[cell_drew,aq hr0];exact⟨b0,b1,b3⟩)
    clear hK K;refine wpAnyH_ready (rs:=[4]) (by kernel_rfl) (by simp) ?_;refine AllReadyH.cons (o:=_) rfl (fun K hK=>?_) AllReadyH.nil;go_simp
    (go_at_call 66;refine(eG oa on oc ops (w1.alloc (.cells #[.int .i64 0,.slice none 0 0,.slice none 0 0,.bool false] 90)).drew (HP1.o.later (af _ _).drew) hon).mono ?_;rintro e w2 ⟨a2,k2,rfl,P2,C2,A2,B2⟩;have D2:=aa (fQ B2.o);have hs2:w.heap.size<w2.heap.size:=Fm hr0 D2.o.size;have hgb:¬w1.heap.size=w.heap.size:=(by omega);have XZ:=aa ((Bx.db w1 #[.int .i64 0,.slice none 0 0,.slice none 0 0,.bool false] 90).later B2.o (by show w1.heap.size<(w1.alloc _).heap.size;simp));obtain⟨z0,z1,z2,z3⟩:=XZ.o.four;have zz:=XZ.o.frozen;obtain⟨c0,c1,c2,c3⟩:=(XB1.o.later D2.o hr0).four)
    refine hK.out _ _ ?_ (fun hHeld=>?_)
    ·exact⟨c0,c1,c3⟩
    clear hK K;refine wpAnyH_take (i:=7) (oi:=_) (v:=?v7af) rfl (by kernel_rfl) (by kernel_rfl) (by kernel_rfl) (fun _ _ _ h=>h) (Or.inl ⟨by rfl,?y7af⟩) (by assumption) ?r7af;case y7af =>
     intro w hSw
     (try dsimp only at hSw)
     go_simp
     first|done|with_reducible rfl
    skip
    refine wpAnyH_take (i:=8) (oi:=_) (v:=undef) rfl (by kernel_rfl) (by kernel_rfl) (by kernel_rfl) (fun _ _ _ h=>h) (Or.inr ⟨by rfl,rfl⟩) (by assumption) ?_;skip
    refine wpAnyH_take (i:=9) (oi:=_) (v:=undef) rfl (by kernel_rfl) (by kernel_rfl) (by kernel_rfl) (fun _ _ _ h=>h) (Or.inr ⟨by rfl,rfl⟩) (by assumption) ?_;skip
    refine wpAnyH_take (i:=10) (oi:=_) (v:=undef) rfl (by kernel_rfl) (by kernel_rfl) (by kernel_rfl) (fun _ _ _ h=>h) (Or.inr ⟨by rfl,rfl⟩) (by assumption) ?_;skip
    refine wpAnyH_take (i:=11) (oi:=_) (v:=undef) rfl (by kernel_rfl) (by kernel_rfl) (by kernel_rfl) (fun _ _ _ h=>h) (Or.inr ⟨by rfl,rfl⟩) (by assumption) ?_;skip
    refine wpAnyH_take (i:=12) (oi:=_) (v:=?v12af) rfl (by kernel_rfl) (by kernel_rfl) (by kernel_rfl) (fun _ _ _ h=>h) (Or.inl ⟨by rfl,?y12af⟩) (by assumption) ?r12af;case y12af =>
     intro w hSw
     (try dsimp only at hSw)
     go_simp
     first|done|with_reducible rfl
    skip
    refine wpAnyH_take (i:=13) (oi:=_) (v:=?v13af) rfl (by kernel_rfl) (by kernel_rfl) (by kernel_rfl) (fun _ _ _ h=>h) (Or.inl ⟨by rfl,?y13af⟩) (by assumption) ?r13af;case y13af =>
     intro w hSw
     (try dsimp only at hSw)
     go_simp
     first|done|with_reducible rfl
    skip
    refine wpAnyH_ready (rs:=[15]) (by kernel_rfl) (by simp) ?_;refine AllReadyH.cons (o:=_) rfl (fun K hK=>?_) AllReadyH.nil;go_simp
    skip
    refine hK.out _ _ ?_ (fun hHeld=>?_)
    ·(simp only[au hgb];exact⟨c0,c1,c3⟩)
    clear hK K;refine wpAnyH_done (by kernel_rfl) ?_ _;obtain⟨W3,hW3⟩:∃ W3:World,Hid (W3=cI w2 w1.heap.size (.int .i64 num) (.slice a2 on k2) (.slice none 0 0) (.bool false)):=⟨_,rfl⟩
    unfold cI at hW3;rw[←hW3.o];have hg1:w1.heap.size≤w1.heap.size:=Fq _;clear z0 z1 z2 z3 zz;have XN3:=aa (show Bx W3 w1.heap.size #[.int .i64 num,.slice a2 on k2,.slice none 0 0,.bool false] 90 by rw[hW3.o];exact XZ.o.bY _ _ _ _);have D3:=aa (show Below w1.heap.size w1 W3 by rw[hW3.o];exact bD D2.o (Fq _) _ _ _ _);have P3:=aa (show PL W3 a2 on ops by rw[hW3.o];exact P2.o.grownBy (cT (ao w2 (some w1.heap.size)) _ _ _ _) (fun _ p hp e=>by have h1:(w1.alloc (.cells #[.int .i64 0,.slice none 0 0,.slice none 0 0,.bool false] 90)).heap.size≤p.block:=A2.o p hp;rw[World.size_alloc] at h1;have h2:w1.heap.size=p.block:=Fo e;omega));have A3:=aa (show 0<on→∀ p,a2=some p→w1.heap.size≤p.block∧p.block≠w1.heap.size from fun _ p hp=>by have h1:(w1.alloc (.cells #[.int .i64 0,.slice none 0 0,.slice none 0 0,.bool false] 90)).heap.size≤p.block:=A2.o p hp;rw[World.size_alloc] at h1;exact⟨by omega,by omega⟩);have XB3:=aa (XB1.o.later D3.o hr0);have XR3:=aa (XR1.o.later D3.o hr1);have HE3:=aa (HE1.o.later D3.o);have hr3:w.heap.size+1<W3.heap.size:=XR3.o.lt;have hg3:w1.heap.size<W3.heap.size:=XN3.o.lt;have hgr:¬w1.heap.size=w.heap.size+1:=by omega
    clear b0 b1 b2 b3 c0 c1 c2 c3;obtain⟨b0,b1,b2,b3⟩:=XB3.o.four;go_wp2_with fail;refine(HKB.o W3 HE3.o).mono ?_;rintro e w4 ⟨a4,k4,rfl,E4,B4⟩;clear b0 b1 b2 b3;go_wp2_with fail;refine(eF a4 KE.length k4 KE w4 E4.o HKL.o HPS.o).mono ?_;rintro e w5 ⟨a5,k5,rfl,O5,B5⟩;have D5:=aa (show Below W3.heap.size W3 w5 from B4.o.trans (B5.o.mono B4.o.size));have XN5:=aa (XN3.o.later D5.o hg3);have XR5:=aa (XR3.o.later D5.o hr3);have F5:=aa (O5.o.full (Fq _));have hg4:w1.heap.size<w4.heap.size:=Fm hg3 B4.o.size;have hr4:w.heap.size+1<w4.heap.size:=Fm hr3 B4.o.size;obtain⟨W6,hW6⟩:∃ W6:World,Hid (W6=w5.setCell ⟨w1.heap.size,2,none⟩ (.slice a5 KE.length k5)):=⟨_,rfl⟩
    have G6:=aa (show w5.grownBy W6 (some w1.heap.size) by rw[hW6.o];exact ak (ao _ _) _ _);have XN6:=aa (show Bx W6 w1.heap.size #[.int .i64 num,.slice a2 on k2,.slice a5 KE.length k5,.bool false] 90 by rw[hW6.o];exact XN5.o.set 2 _);have XR6:=aa (show Bx W6 (w.heap.size+1) #[.int .i64 0,.slice none 0 0,.slice none 0 0,.bool false] 90 by rw[hW6.o];exact XR5.o.other ⟨w1.heap.size,2,none⟩ _ (fun e=>hgr e.symm));have B6:=aa (show Below w.heap.size w W6 by rw[hW6.o];exact(B1.o.trans ((D3.o.trans (D5.o.mono D3.o.size)).mono (by omega))).setCell (by show w.heap.size≤w1.heap.size;omega) _);obtain⟨n0,n1,n2,n3⟩:=XN5.o.four;have nz:=XN5.o.frozen;obtain⟨r0,r1,r2,r3⟩:=XR5.o.four;have rz:=XR5.o.frozen;have hrg:¬w.heap.size+1=w1.heap.size:=fun e=>hgr e.symm
    have GF:=aa (cT (ao W6 (some (w.heap.size+1))) (.int .i64 num) (.slice a2 on k2) (.slice a5 KE.length k5) (.bool false));have EF:=aa (show ELA w.heap.size (cI W6 (w.heap.size+1) (.int .i64 num) (.slice a2 on k2) (.slice a5 KE.length k5) (.bool false)) a5 KE.length KE from((F5.o.1.grown G6.o hg4).grown GF.o hr4).lower (by omega));have PF:=aa (show PL (cI W6 (w.heap.size+1) (.int .i64 num) (.slice a2 on k2) (.slice a5 KE.length k5) (.bool false)) a2 on ops from((P3.o.later D5.o).grownBy G6.o (fun h0 p hp e=>(A3.o h0 p hp).2 (Fo e).symm)).grownBy GF.o (fun h0 p hp e=>by have h1:=(A3.o h0 p hp).1;have h2:w.heap.size+1=p.block:=Fo e;omega));have BF:=aa (show Below w.heap.size w (cI W6 (w.heap.size+1) (.int .i64 num) (.slice a2 on k2) (.slice a5 KE.length k5) (.bool false)) from bD B6.o (by omega) _ _ _ _);go_wp2_with fail;rw[←hW6.o];obtain⟨t0,t1,t2,t3⟩:=(XR6.o.bY (.int .i64 num) (.slice a2 on k2) (.slice a5 KE.length k5) (.bool false)).four;exact bodyPost_ret (v:=.tuple #[.agg #[.int .i64 num,.slice a2 on k2,.slice a5 KE.length k5,.bool false],.nilIface]) (by simp[results,Tryz.results116,go_sem,t0,t1,t2,t3]) rfl ⟨_,by rw[HF.o]<;>rfl,by rw[HA.o,HDB.o,Dbq.o];exact⟨a2,on,k2,a5,KE.length,k5,rfl,PF.o,fun h0 p hp=>by have h1:=(A3.o h0 p hp).1;omega,EF.o,C2.o,F5.o.2⟩,BF⟩
  | true =>
   by_cases hkn2:num=k
   ·have Dbq:=aa (show bq=false by rw[hbq.o,hkn2];simp)
    subst hkn2;clear r0 r1 r2 r3 rz;go_wp2_with fail;refine wp_region_held_drew (S:=(fun w'=>w'.cell? ⟨w.heap.size,0,none⟩=some (.int .i64 num)∧w'.cell? ⟨w.heap.size,1,none⟩=some (.slice oa on oc)∧w'.cell? ⟨w.heap.size,3,none⟩=some (.bool true))) (by kernel_rfl) ?_ (fun hHeld=>?_)
    ·exact⟨b0,b1,b3⟩
    refine wpAnyH_take (i:=0) (oi:=_) (v:=?v0t) rfl (by kernel_rfl) (by kernel_rfl) (by kernel_rfl) (fun _ _ _ h=>h) (Or.inl ⟨by rfl,?y0t⟩) (by assumption) ?r0t;case y0t =>
     intro w hSw
     (try dsimp only at hSw)
     go_simp
     first|done|with_reducible rfl
    skip
    refine wpAnyH_take (i:=1) (oi:=_) (v:=?v1t) rfl (by kernel_rfl) (by kernel_rfl) (by kernel_rfl) (fun _ _ _ h=>h) (Or.inl ⟨by rfl,?y1t⟩) (by assumption) ?r1t;case y1t =>
     intro w hSw
     (try dsimp only at hSw)
     go_simp
     first|done|with_reducible rfl
    skip
    refine wpAnyH_take (i:=2) (oi:=_) (v:=?v2t) rfl (by kernel_rfl) (by kernel_rfl) (by kernel_rfl) (fun _ _ _ h=>h) (Or.inl ⟨by rfl,?y2t⟩) (by assumption) ?r2t;case y2t =>
     intro w hSw
     (try dsimp only at hSw)
     go_simp
     first|done|with_reducible rfl
    skip
    refine wpAnyH_take (i:=3) (oi:=_) (v:=?v3t) rfl (by kernel_rfl) (by kernel_rfl) (by kernel_rfl) (fun _ _ _ h=>h) (Or.inl ⟨by rfl,?y3t⟩) (by assumption) ?r3t;case y3t =>
     intro w hSw
     (try dsimp only at hSw)
     go_simp
     first|done|with_reducible rfl
    skip
    refine wpAnyH_take (i:=5) (oi:=_) (v:=?v5t) rfl (by kernel_rfl) (by kernel_rfl) (by kernel_rfl) (fun _ _ _ h=>h) (Or.inl ⟨by rfl,?y5t⟩) (by assumption) ?r5t;case y5t =>
     intro w hSw
     (try dsimp only at hSw)
     go_simp
     first|done|with_reducible rfl
    skip
    refine wpAnyH_take (i:=6) (oi:=_) (v:=?v6t) rfl (by kernel_rfl) (by kernel_rfl) (by kernel_rfl) (fun _ _ _ h=>h) (Or.inl ⟨by rfl,?y6t⟩) (by assumption) ?r6t;case y6t =>
     intro w hSw
     (try dsimp only at hSw)
     go_simp
     first|done|with_reducible rfl
    skip
    refine wpAnyH_ready (rs:=[4,14]) (by kernel_rfl) (by simp) ?_;refine AllReadyH.cons (o:=_) rfl (fun K hK=>?_) (AllReadyH.cons (o:=_) rfl (fun K hK=>?_) AllReadyH.nil)
    ·go_simp
     (go_at_call 66;refine(eG oa on oc ops w1.drew (HP1.o.later (Below.refl _ _).drew) hon).mono ?_;rintro e w2 ⟨a2,k2,rfl,P2,C2,A2,B2⟩;have D2:=aa (iA B2.o);have hs2:w.heap.size<w2.heap.size:=Fm hr0 D2.o.size;obtain⟨c0,c1,c2,c3⟩:=(XB1.o.later D2.o hr0).four)
     refine hK.out _ _ ?_ (fun hHeld=>?_)
     ·exact⟨c0,c1,c3⟩
     clear hK K;refine wpAnyH_take (i:=7) (oi:=_) (v:=?v7bt) rfl (by kernel_rfl) (by kernel_rfl) (by kernel_rfl) (fun _ _ _ h=>h) (Or.inl ⟨by rfl,?y7bt⟩) (by assumption) ?r7bt;case y7bt =>
      intro w hSw
      (try dsimp only at hSw)
      go_simp
      first|done|with_reducible rfl
     skip
     refine wpAnyH_take (i:=8) (oi:=_) (v:=?v8bt) rfl (by kernel_rfl) (by kernel_rfl) (by kernel_rfl) (fun _ _ _ h=>h) (Or.inl ⟨by rfl,?y8bt⟩) (by assumption) ?r8bt;case y8bt =>
      intro w hSw
      (try dsimp only at hSw)
      go_simp
      first|done|with_reducible rfl
     skip
     refine wpAnyH_take (i:=9) (oi:=_) (v:=?v9bt) rfl (by kernel_rfl) (by kernel_rfl) (by kernel_rfl) (fun _ _ _ h=>h) (Or.inl ⟨by rfl,?y9bt⟩) (by assumption) ?r9bt;case y9bt =>
      intro w hSw
      (try dsimp only at hSw)
      go_simp
      first|done|with_reducible rfl
     skip
     refine wpAnyH_take (i:=10) (oi:=_) (v:=?v10bt) rfl (by kernel_rfl) (by kernel_rfl) (by kernel_rfl) (fun _ _ _ h=>h) (Or.inl ⟨by rfl,?y10bt⟩) (by assumption) ?r10bt;case y10bt =>
      intro w hSw
      (try dsimp only at hSw)
      go_simp
      first|done|with_reducible rfl
     skip
     refine wpAnyH_take (i:=11) (oi:=_) (v:=?v11bt) rfl (by kernel_rfl) (by kernel_rfl) (by kernel_rfl) (fun _ _ _ h=>h) (Or.inl ⟨by rfl,?y11bt⟩) (by assumption) ?r11bt;case y11bt =>
      intro w hSw
      (try dsimp only at hSw)
      go_simp
      first|done|with_reducible rfl
     skip
     refine wpAnyH_take (i:=12) (oi:=_) (v:=?v12bt) rfl (by kernel_rfl) (by kernel_rfl) (by kernel_rfl) (fun _ _ _ h=>h) (Or.inl ⟨by rfl,?y12bt⟩) (by assumption) ?r12bt;case y12bt =>
      intro w hSw
      (try dsimp only at hSw)
      go_simp
      first|done|with_reducible rfl
     skip
     refine wpAnyH_take (i:=13) (oi:=_) (v:=?v13bt) rfl (by kernel_rfl) (by kernel_rfl) (by kernel_rfl) (fun _ _ _ h=>h) (Or.inl ⟨by rfl,?y13bt⟩) (by assumption) ?r13bt;case y13bt =>
      intro w hSw
      (try dsimp only at hSw)
      go_simp
      first|done|with_reducible rfl
     skip
     refine wpAnyH_ready (rs:=[14]) (by kernel_rfl) (by simp) ?_;refine AllReadyH.cons (o:=_) rfl (fun K hK=>?_) AllReadyH.nil;go_simp
     skip
     refine hK.out _ _ ?_ (fun hHeld=>?_)
     ·(simp only[aq hs2];exact⟨c0,c1,c3⟩)
     clear hK K;refine wpAnyH_ready (rs:=[15]) (by kernel_rfl) (by simp) ?_;refine AllReadyH.cons (o:=_) rfl (fun K hK=>?_) AllReadyH.nil;go_simp
     skip
     refine hK.out _ _ ?_ (fun hHeld=>?_)
     ·(simp only[aq hs2];exact⟨c0,c1,c3⟩)
     clear hK K;refine wpAnyH_done (by kernel_rfl) ?_ _;obtain⟨W3,hW3⟩:∃ W3:World,Hid (W3=w2.alloc (.cells #[.int .i64 num,.slice a2 on k2,.slice none 0 0,.bool false] 90)):=⟨_,rfl⟩
     skip
     rw[←hW3.o];have hg1:w1.heap.size≤w2.heap.size:=D2.o.size;have XN3:=bxA hW3;have D3:=aa (show Below w1.heap.size w1 W3 by rw[hW3.o];exact D2.o.trans ((af w2 _).mono D2.o.size));have P3:=aa (show PL W3 a2 on ops by rw[hW3.o];exact P2.o.later (af w2 _));have A3:=aa (show 0<on→∀ p,a2=some p→w1.heap.size≤p.block∧p.block≠w2.heap.size from fun h0 p hp=>⟨A2.o p hp,fun e=>by obtain⟨b,off,ha,hlt,_⟩:=P2.o.2.2.2 h0;rw[ha] at hp;cases hp;change b=w2.heap.size at e;omega⟩);have XB3:=aa (XB1.o.later D3.o hr0);have XR3:=aa (XR1.o.later D3.o hr1);have HE3:=aa (HE1.o.later D3.o);have hr3:w.heap.size+1<W3.heap.size:=XR3.o.lt;have hg3:w2.heap.size<W3.heap.size:=XN3.o.lt;have hgr:¬w2.heap.size=w.heap.size+1:=by omega
     clear b0 b1 b2 b3 c0 c1 c2 c3;obtain⟨b0,b1,b2,b3⟩:=XB3.o.four;go_wp2_with fail;refine(HKB.o W3 HE3.o).mono ?_;rintro e w4 ⟨a4,k4,rfl,E4,B4⟩;clear b0 b1 b2 b3;go_wp2_with fail;refine(eF a4 KE.length k4 KE w4 E4.o HKL.o HPS.o).mono ?_;rintro e w5 ⟨a5,k5,rfl,O5,B5⟩;have D5:=aa (show Below W3.heap.size W3 w5 from B4.o.trans (B5.o.mono B4.o.size));have XN5:=aa (XN3.o.later D5.o hg3);have XR5:=aa (XR3.o.later D5.o hr3);have F5:=aa (O5.o.full (Fq _));have hg4:w2.heap.size<w4.heap.size:=Fm hg3 B4.o.size;have hr4:w.heap.size+1<w4.heap.size:=Fm hr3 B4.o.size;obtain⟨W6,hW6⟩:∃ W6:World,Hid (W6=w5.setCell ⟨w2.heap.size,2,none⟩ (.slice a5 KE.length k5)):=⟨_,rfl⟩
     have G6:=aa (show w5.grownBy W6 (some w2.heap.size) by rw[hW6.o];exact ak (ao _ _) _ _);have XN6:=aa (show Bx W6 w2.heap.size #[.int .i64 num,.slice a2 on k2,.slice a5 KE.length k5,.bool false] 90 by rw[hW6.o];exact XN5.o.set 2 _);have XR6:=aa (show Bx W6 (w.heap.size+1) #[.int .i64 0,.slice none 0 0,.slice none 0 0,.bool false] 90 by rw[hW6.o];exact XR5.o.other ⟨w2.heap.size,2,none⟩ _ (fun e=>hgr e.symm));have B6:=aa (show Below w.heap.size w W6 by rw[hW6.o];exact(B1.o.trans ((D3.o.trans (D5.o.mono D3.o.size)).mono (by omega))).setCell (by show w.heap.size≤w2.heap.size;omega) _);obtain⟨n0,n1,n2,n3⟩:=XN5.o.four;have nz:=XN5.o.frozen;obtain⟨r0,r1,r2,r3⟩:=XR5.o.four;have rz:=XR5.o.frozen;have hrg:¬w.heap.size+1=w2.heap.size:=fun e=>hgr e.symm
     have GF:=aa (cT (ao W6 (some (w.heap.size+1))) (.int .i64 num) (.slice a2 on k2) (.slice a5 KE.length k5) (.bool false));have EF:=aa (show ELA w.heap.size (cI W6 (w.heap.size+1) (.int .i64 num) (.slice a2 on k2) (.slice a5 KE.length k5) (.bool false)) a5 KE.length KE from((F5.o.1.grown G6.o hg4).grown GF.o hr4).lower (by omega));have PF:=aa (show PL (cI W6 (w.heap.size+1) (.int .i64 num) (.slice a2 on k2) (.slice a5 KE.length k5) (.bool false)) a2 on ops from((P3.o.later D5.o).grownBy G6.o (fun h0 p hp e=>(A3.o h0 p hp).2 (Fo e).symm)).grownBy GF.o (fun h0 p hp e=>by have h1:=(A3.o h0 p hp).1;have h2:w.heap.size+1=p.block:=Fo e;omega));have BF:=aa (show Below w.heap.size w (cI W6 (w.heap.size+1) (.int .i64 num) (.slice a2 on k2) (.slice a5 KE.length k5) (.bool false)) from bD B6.o (by omega) _ _ _ _);go_wp2_with fail;rw[←hW6.o];obtain⟨t0,t1,t2,t3⟩:=(XR6.o.bY (.int .i64 num) (.slice a2 on k2) (.slice a5 KE.length k5) (.bool false)).four;exact bodyPost_ret (v:=.tuple #[.agg #[.int .i64 num,.slice a2 on k2,.slice a5 KE.length k5,.bool false],.nilIface]) (by simp[results,Tryz.results116,go_sem,t0,t1,t2,t3]) rfl ⟨_,by rw[HF.o]<;>rfl,by rw[HA.o,HDB.o,Dbq.o];exact⟨a2,on,k2,a5,KE.length,k5,rfl,PF.o,fun h0 p hp=>by have h1:=(A3.o h0 p hp).1;omega,EF.o,C2.o,F5.o.2⟩,BF⟩
    ·go_simp
     skip
     refine hK.out _ _ ?_ (fun hHeld=>?_)
     ·(simp only[cell_drew,aq hr0];exact⟨b0,b1,b3⟩)
     clear hK K;refine wpAnyH_ready (rs:=[4]) (by kernel_rfl) (by simp) ?_;refine AllReadyH.cons (o:=_) rfl (fun K hK=>?_) AllReadyH.nil;go_simp
     (go_at_call 66;refine(eG oa on oc ops (w1.alloc (.cells #[.int .i64 0,.slice none 0 0,.slice none 0 0,.bool false] 90)).drew (HP1.o.later (af _ _).drew) hon).mono ?_;rintro e w2 ⟨a2,k2,rfl,P2,C2,A2,B2⟩;have D2:=aa (fQ B2.o);have hs2:w.heap.size<w2.heap.size:=Fm hr0 D2.o.size;have hgb:¬w1.heap.size=w.heap.size:=(by omega);have XZ:=aa ((Bx.db w1 #[.int .i64 0,.slice none 0 0,.slice none 0 0,.bool false] 90).later B2.o (by show w1.heap.size<(w1.alloc _).heap.size;simp));obtain⟨z0,z1,z2,z3⟩:=XZ.o.four;have zz:=XZ.o.frozen;obtain⟨c0,c1,c2,c3⟩:=(XB1.o.later D2.o hr0).four)
     refine hK.out _ _ ?_ (fun hHeld=>?_)
     ·exact⟨c0,c1,c3⟩
     clear hK K;refine wpAnyH_take (i:=7) (oi:=_) (v:=?v7at) rfl (by kernel_rfl) (by kernel_rfl) (by kernel_rfl) (fun _ _ _ h=>h) (Or.inl ⟨by rfl,?y7at⟩) (by assumption) ?r7at;case y7at =>
      intro w hSw
      (try dsimp only at hSw)
      go_simp
      first|done|with_reducible rfl
     skip
     refine wpAnyH_take (i:=8) (oi:=_) (v:=?v8at) rfl (by kernel_rfl) (by kernel_rfl) (by kernel_rfl) (fun _ _ _ h=>h) (Or.inl ⟨by rfl,?y8at⟩) (by assumption) ?r8at;case y8at =>
      intro w hSw
      (try dsimp only at hSw)
      go_simp
      first|done|with_reducible rfl
     skip
     refine wpAnyH_take (i:=9) (oi:=_) (v:=?v9at) rfl (by kernel_rfl) (by kernel_rfl) (by kernel_rfl) (fun _ _ _ h=>h) (Or.inl ⟨by rfl,?y9at⟩) (by assumption) ?r9at;case y9at =>
      intro w hSw
      (try dsimp only at hSw)
      go_simp
      first|done|with_reducible rfl
     skip
     refine wpAnyH_take (i:=10) (oi:=_) (v:=?v10at) rfl (by kernel_rfl) (by kernel_rfl) (by kernel_rfl) (fun _ _ _ h=>h) (Or.inl ⟨by rfl,?y10at⟩) (by assumption) ?r10at;case y10at =>
      intro w hSw
      (try dsimp only at hSw)
      go_simp
      first|done|with_reducible rfl
     skip
     refine wpAnyH_take (i:=11) (oi:=_) (v:=?v11at) rfl (by kernel_rfl) (by kernel_rfl) (by kernel_rfl) (fun _ _ _ h=>h) (Or.inl ⟨by rfl,?y11at⟩) (by assumption) ?r11at;case y11at =>
      intro w hSw
      (try dsimp only at hSw)
      go_simp
      first|done|with_reducible rfl
     skip
     refine wpAnyH_take (i:=12) (oi:=_) (v:=?v12at) rfl (by kernel_rfl) (by kernel_rfl) (by kernel_rfl) (fun _ _ _ h=>h) (Or.inl ⟨by rfl,?y12at⟩) (by assumption) ?r12at;case y12at =>
      intro w hSw
      (try dsimp only at hSw)
      go_simp
      first|done|with_reducible rfl
     skip
     refine wpAnyH_take (i:=13) (oi:=_) (v:=?v13at) rfl (by kernel_rfl) (by kernel_rfl) (by kernel_rfl) (fun _ _ _ h=>h) (Or.inl ⟨by rfl,?y13at⟩) (by assumption) ?r13at;case y13at =>
      intro w hSw
      (try dsimp only at hSw)
      go_simp
      first|done|with_reducible rfl
     skip
     refine wpAnyH_ready (rs:=[15]) (by kernel_rfl) (by simp) ?_;refine AllReadyH.cons (o:=_) rfl (fun K hK=>?_) AllReadyH.nil;go_simp
     skip
     refine hK.out _ _ ?_ (fun hHeld=>?_)
     ·(simp only[au hgb];exact⟨c0,c1,c3⟩)
     clear hK K;refine wpAnyH_done (by kernel_rfl) ?_ _;obtain⟨W3,hW3⟩:∃ W3:World,Hid (W3=cI w2 w1.heap.size (.int .i64 num) (.slice a2 on k2) (.slice none 0 0) (.bool false)):=⟨_,rfl⟩
     unfold cI at hW3;rw[←hW3.o];have hg1:w1.heap.size≤w1.heap.size:=Fq _;clear z0 z1 z2 z3 zz;have XN3:=aa (show Bx W3 w1.heap.size #[.int .i64 num,.slice a2 on k2,.slice none 0 0,.bool false] 90 by rw[hW3.o];exact XZ.o.bY _ _ _ _);have D3:=aa (show Below w1.heap.size w1 W3 by rw[hW3.o];exact bD D2.o (Fq _) _ _ _ _);have P3:=aa (show PL W3 a2 on ops by rw[hW3.o];exact P2.o.grownBy (cT (ao w2 (some w1.heap.size)) _ _ _ _) (fun _ p hp e=>by have h1:(w1.alloc (.cells #[.int .i64 0,.slice none 0 0,.slice none 0 0,.bool false] 90)).heap.size≤p.block:=A2.o p hp;rw[World.size_alloc] at h1;have h2:w1.heap.size=p.block:=Fo e;omega));have A3:=aa (show 0<on→∀ p,a2=some p→w1.heap.size≤p.block∧p.block≠w1.heap.size from fun _ p hp=>by have h1:(w1.alloc (.cells #[.int .i64 0,.slice none 0 0,.slice none 0 0,.bool false] 90)).heap.size≤p.block:=A2.o p hp;rw[World.size_alloc] at h1;exact⟨by omega,by omega⟩);have XB3:=aa (XB1.o.later D3.o hr0);have XR3:=aa (XR1.o.later D3.o hr1);have HE3:=aa (HE1.o.later D3.o);have hr3:w.heap.size+1<W3.heap.size:=XR3.o.lt;have hg3:w1.heap.size<W3.heap.size:=XN3.o.lt;have hgr:¬w1.heap.size=w.heap.size+1:=by omega
     clear b0 b1 b2 b3 c0 c1 c2 c3;obtain⟨b0,b1,b2,b3⟩:=XB3.o.four;go_wp2_with fail;refine(HKB.o W3 HE3.o).mono ?_;rintro e w4 ⟨a4,k4,rfl,E4,B4⟩;clear b0 b1 b2 b3;go_wp2_with fail;refine(eF a4 KE.length k4 KE w4 E4.o HKL.o HPS.o).mono ?_;rintro e w5 ⟨a5,k5,rfl,O5,B5⟩;have D5:=aa (show Below W3.heap.size W3 w5 from B4.o.trans (B5.o.mono B4.o.size));have XN5:=aa (XN3.o.later D5.o hg3);have XR5:=aa (XR3.o.later D5.o hr3);have F5:=aa (O5.o.full (Fq _));have hg4:w1.heap.size<w4.heap.size:=Fm hg3 B4.o.size;have hr4:w.heap.size+1<w4.heap.size:=Fm hr3 B4.o.size;obtain⟨W6,hW6⟩:∃ W6:World,Hid (W6=w5.setCell ⟨w1.heap.size,2,none⟩ (.slice a5 KE.length k5)):=⟨_,rfl⟩
     have G6:=aa (show w5.grownBy W6 (some w1.heap.size) by rw[hW6.o];exact ak (ao _ _) _ _);have XN6:=aa (show Bx W6 w1.heap.size #[.int .i64 num,.slice a2 on k2,.slice a5 KE.length k5,.bool false] 90 by rw[hW6.o];exact XN5.o.set 2 _);have XR6:=aa (show Bx W6 (w.heap.size+1) #[.int .i64 0,.slice none 0 0,.slice none 0 0,.bool false] 90 by rw[hW6.o];exact XR5.o.other ⟨w1.heap.size,2,none⟩ _ (fun e=>hgr e.symm));have B6:=aa (show Below w.heap.size w W6 by rw[hW6.o];exact(B1.o.trans ((D3.o.trans (D5.o.mono D3.o.size)).mono (by omega))).setCell (by show w.heap.size≤w1.heap.size;omega) _);obtain⟨n0,n1,n2,n3⟩:=XN5.o.four;have nz:=XN5.o.frozen;obtain⟨r0,r1,r2,r3⟩:=XR5.o.four;have rz:=XR5.o.frozen;have hrg:¬w.heap.size+1=w1.heap.size:=fun e=>hgr e.symm
     have GF:=aa (cT (ao W6 (some (w.heap.size+1))) (.int .i64 num) (.slice a2 on k2) (.slice a5 KE.length k5) (.bool false));have EF:=aa (show ELA w.heap.size (cI W6 (w.heap.size+1) (.int .i64 num) (.slice a2 on k2) (.slice a5 KE.length k5) (.bool false)) a5 KE.length KE from((F5.o.1.grown G6.o hg4).grown GF.o hr4).lower (by omega));have PF:=aa (show PL (cI W6 (w.heap.size+1) (.int .i64 num) (.slice a2 on k2) (.slice a5 KE.length k5) (.bool false)) a2 on ops from((P3.o.later D5.o).grownBy G6.o (fun h0 p hp e=>(A3.o h0 p hp).2 (Fo e).symm)).grownBy GF.o (fun h0 p hp e=>by have h1:=(A3.o h0 p hp).1;have h2:w.heap.size+1=p.block:=Fo e;omega));have BF:=aa (show Below w.heap.size w (cI W6 (w.heap.size+1) (.int .i64 num) (.slice a2 on k2) (.slice a5 KE.length k5) (.bool false)) from bD B6.o (by omega) _ _ _ _);go_wp2_with fail;rw[←hW6.o];obtain⟨t0,t1,t2,t3⟩:=(XR6.o.bY (.int .i64 num) (.slice a2 on k2) (.slice a5 KE.length k5) (.bool false)).four;exact bodyPost_ret (v:=.tuple #[.agg #[.int .i64 num,.slice a2 on k2,.slice a5 KE.length k5,.bool false],.nilIface]) (by simp[results,Tryz.results116,go_sem,t0,t1,t2,t3]) rfl ⟨_,by rw[HF.o]<;>rfl,by rw[HA.o,HDB.o,Dbq.o];exact⟨a2,on,k2,a5,KE.length,k5,rfl,PF.o,fun h0 p hp=>by have h1:=(A3.o h0 p hp).1;omega,EF.o,C2.o,F5.o.2⟩,BF⟩
   ·have Dbq:=aa (show bq=true by rw[hbq.o];simp;exact fun h=>hkn2 h.symm)
    have dk:(k != num)=true:=by simp;exact fun h=>hkn2 h.symm
    clear hkn2;clear r0 r1 r2 r3 rz;go_wp2_with fail;refine wp_region_held_drew (S:=(fun w'=>w'.cell? ⟨w.heap.size,0,none⟩=some (.int .i64 num)∧w'.cell? ⟨w.heap.size,1,none⟩=some (.slice oa on oc)∧w'.cell? ⟨w.heap.size,3,none⟩=some (.bool true))) (by kernel_rfl) ?_ (fun hHeld=>?_)
    ·exact⟨b0,b1,b3⟩
    refine wpAnyH_take (i:=0) (oi:=_) (v:=?v0u) rfl (by kernel_rfl) (by kernel_rfl) (by kernel_rfl) (fun _ _ _ h=>h) (Or.inl ⟨by rfl,?y0u⟩) (by assumption) ?r0u;case y0u =>
     intro w hSw
     (try dsimp only at hSw)
     go_simp
     first|done|with_reducible rfl
    skip
    refine wpAnyH_take (i:=1) (oi:=_) (v:=?v1u) rfl (by kernel_rfl) (by kernel_rfl) (by kernel_rfl) (fun _ _ _ h=>h) (Or.inl ⟨by rfl,?y1u⟩) (by assumption) ?r1u;case y1u =>
     intro w hSw
     (try dsimp only at hSw)
     go_simp
     first|done|with_reducible rfl
    skip
    refine wpAnyH_take (i:=2) (oi:=_) (v:=?v2u) rfl (by kernel_rfl) (by kernel_rfl) (by kernel_rfl) (fun _ _ _ h=>h) (Or.inl ⟨by rfl,?y2u⟩) (by assumption) ?r2u;case y2u =>
     intro w hSw
     (try dsimp only at hSw)
     go_simp
     first|done|with_reducible rfl
    skip
    refine wpAnyH_take (i:=3) (oi:=_) (v:=?v3u) rfl (by kernel_rfl) (by kernel_rfl) (by kernel_rfl) (fun _ _ _ h=>h) (Or.inl ⟨by rfl,?y3u⟩) (by assumption) ?r3u;case y3u =>
     intro w hSw
     (try dsimp only at hSw)
     go_simp
     first|done|with_reducible rfl
    skip
    refine wpAnyH_take (i:=5) (oi:=_) (v:=?v5u) rfl (by kernel_rfl) (by kernel_rfl) (by kernel_rfl) (fun _ _ _ h=>h) (Or.inl ⟨by rfl,?y5u⟩) (by assumption) ?r5u;case y5u =>
     intro w hSw
     (try dsimp only at hSw)
     go_simp
     first|done|with_reducible rfl
    skip
    refine wpAnyH_take (i:=6) (oi:=_) (v:=?v6u) rfl (by kernel_rfl) (by kernel_rfl) (by kernel_rfl) (fun _ _ _ h=>h) (Or.inl ⟨by rfl,?y6u⟩) (by assumption) ?r6u;case y6u =>
     intro w hSw
     (try dsimp only at hSw)
     go_simp
     first|done|with_reducible rfl
    skip
    refine wpAnyH_ready (rs:=[4,14]) (by kernel_rfl) (by simp) ?_;refine AllReadyH.cons (o:=_) rfl (fun K hK=>?_) (AllReadyH.cons (o:=_) rfl (fun K hK=>?_) AllReadyH.nil)
    ·go_simp
     (go_at_call 66;refine(eG oa on oc ops w1.drew (HP1.o.later (Below.refl _ _).drew) hon).mono ?_;rintro e w2 ⟨a2,k2,rfl,P2,C2,A2,B2⟩;have D2:=aa (iA B2.o);have hs2:w.heap.size<w2.heap.size:=Fm hr0 D2.o.size;obtain⟨c0,c1,c2,c3⟩:=(XB1.o.later D2.o hr0).four)
     refine hK.out _ _ ?_ (fun hHeld=>?_)
     ·exact⟨c0,c1,c3⟩
     clear hK K;refine wpAnyH_take (i:=7) (oi:=_) (v:=?v7bu) rfl (by kernel_rfl) (by kernel_rfl) (by kernel_rfl) (fun _ _ _ h=>h) (Or.inl ⟨by rfl,?y7bu⟩) (by assumption) ?r7bu;case y7bu =>
      intro w hSw
      (try dsimp only at hSw)
      go_simp
      first|done|with_reducible rfl
     skip
     refine wpAnyH_take (i:=8) (oi:=_) (v:=?v8bu) rfl (by kernel_rfl) (by kernel_rfl) (by kernel_rfl) (fun _ _ _ h=>h) (Or.inl ⟨by rfl,?y8bu⟩) (by assumption) ?r8bu;case y8bu =>
      intro w hSw
      (try dsimp only at hSw)
      go_simp
      first|done|with_reducible rfl
     skip
     refine wpAnyH_take (i:=9) (oi:=_) (v:=?v9bu) rfl (by kernel_rfl) (by kernel_rfl) (by kernel_rfl) (fun _ _ _ h=>h) (Or.inl ⟨by rfl,?y9bu⟩) (by assumption) ?r9bu;case y9bu =>
      intro w hSw
      (try dsimp only at hSw)
      go_simp
      first|done|with_reducible rfl
     skip
     refine wpAnyH_take (i:=10) (oi:=_) (v:=?v10bu) rfl (by kernel_rfl) (by kernel_rfl) (by kernel_rfl) (fun _ _ _ h=>h) (Or.inl ⟨by rfl,?y10bu⟩) (by assumption) ?r10bu;case y10bu =>
      intro w hSw
      (try dsimp only at hSw)
      go_simp
      first|done|with_reducible rfl
     skip
     refine wpAnyH_take (i:=11) (oi:=_) (v:=?v11bu) rfl (by kernel_rfl) (by kernel_rfl) (by kernel_rfl) (fun _ _ _ h=>h) (Or.inl ⟨by rfl,?y11bu⟩) (by assumption) ?r11bu;case y11bu =>
      intro w hSw
      (try dsimp only at hSw)
      go_simp
      first|done|with_reducible rfl
     skip
     refine wpAnyH_take (i:=12) (oi:=_) (v:=?v12bu) rfl (by kernel_rfl) (by kernel_rfl) (by kernel_rfl) (fun _ _ _ h=>h) (Or.inl ⟨by rfl,?y12bu⟩) (by assumption) ?r12bu;case y12bu =>
      intro w hSw
      (try dsimp only at hSw)
      go_simp
      first|done|with_reducible rfl
     skip
     refine wpAnyH_take (i:=13) (oi:=_) (v:=?v13bu) rfl (by kernel_rfl) (by kernel_rfl) (by kernel_rfl) (fun _ _ _ h=>h) (Or.inl ⟨by rfl,?y13bu⟩) (by assumption) ?r13bu;case y13bu =>
      intro w hSw
      (try dsimp only at hSw)
      go_simp
      first|done|with_reducible rfl
     skip
     refine wpAnyH_ready (rs:=[14]) (by kernel_rfl) (by simp) ?_;refine AllReadyH.cons (o:=_) rfl (fun K hK=>?_) AllReadyH.nil;go_simp
     skip
     refine hK.out _ _ ?_ (fun hHeld=>?_)
     ·(simp only[aq hs2];exact⟨c0,c1,c3⟩)
     clear hK K;refine wpAnyH_ready (rs:=[15]) (by kernel_rfl) (by simp) ?_;refine AllReadyH.cons (o:=_) rfl (fun K hK=>?_) AllReadyH.nil;go_simp
     skip
     refine hK.out _ _ ?_ (fun hHeld=>?_)
     ·(simp only[aq hs2];exact⟨c0,c1,c3⟩)
     clear hK K;refine wpAnyH_done (by kernel_rfl) ?_ _;obtain⟨W3,hW3⟩:∃ W3:World,Hid (W3=w2.alloc (.cells #[.int .i64 num,.slice a2 on k2,.slice none 0 0,.bool true] 90)):=⟨_,rfl⟩
     skip
     rw[←hW3.o];have hg1:w1.heap.size≤w2.heap.size:=D2.o.size;have XN3:=bxA hW3;have D3:=aa (show Below w1.heap.size w1 W3 by rw[hW3.o];exact D2.o.trans ((af w2 _).mono D2.o.size));have P3:=aa (show PL W3 a2 on ops by rw[hW3.o];exact P2.o.later (af w2 _));have A3:=aa (show 0<on→∀ p,a2=some p→w1.heap.size≤p.block∧p.block≠w2.heap.size from fun h0 p hp=>⟨A2.o p hp,fun e=>by obtain⟨b,off,ha,hlt,_⟩:=P2.o.2.2.2 h0;rw[ha] at hp;cases hp;change b=w2.heap.size at e;omega⟩);have XB3:=aa (XB1.o.later D3.o hr0);have XR3:=aa (XR1.o.later D3.o hr1);have HE3:=aa (HE1.o.later D3.o);have hr3:w.heap.size+1<W3.heap.size:=XR3.o.lt;have hg3:w2.heap.size<W3.heap.size:=XN3.o.lt;have hgr:¬w2.heap.size=w.heap.size+1:=by omega
     clear b0 b1 b2 b3 c0 c1 c2 c3;obtain⟨b0,b1,b2,b3⟩:=XB3.o.four;go_wp2_with fail;refine(HKB.o W3 HE3.o).mono ?_;rintro e w4 ⟨a4,k4,rfl,E4,B4⟩;clear b0 b1 b2 b3;go_wp2_with fail;refine(eF a4 KE.length k4 KE w4 E4.o HKL.o HPS.o).mono ?_;rintro e w5 ⟨a5,k5,rfl,O5,B5⟩;have D5:=aa (show Below W3.heap.size W3 w5 from B4.o.trans (B5.o.mono B4.o.size));have XN5:=aa (XN3.o.later D5.o hg3);have XR5:=aa (XR3.o.later D5.o hr3);have F5:=aa (O5.o.full (Fq _));have hg4:w2.heap.size<w4.heap.size:=Fm hg3 B4.o.size;have hr4:w.heap.size+1<w4.heap.size:=Fm hr3 B4.o.size;obtain⟨W6,hW6⟩:∃ W6:World,Hid (W6=w5.setCell ⟨w2.heap.size,2,none⟩ (.slice a5 KE.length k5)):=⟨_,rfl⟩
     have G6:=aa (show w5.grownBy W6 (some w2.heap.size) by rw[hW6.o];exact ak (ao _ _) _ _);have XN6:=aa (show Bx W6 w2.heap.size #[.int .i64 num,.slice a2 on k2,.slice a5 KE.length k5,.bool true] 90 by rw[hW6.o];exact XN5.o.set 2 _);have XR6:=aa (show Bx W6 (w.heap.size+1) #[.int .i64 0,.slice none 0 0,.slice none 0 0,.bool false] 90 by rw[hW6.o];exact XR5.o.other ⟨w2.heap.size,2,none⟩ _ (fun e=>hgr e.symm));have B6:=aa (show Below w.heap.size w W6 by rw[hW6.o];exact(B1.o.trans ((D3.o.trans (D5.o.mono D3.o.size)).mono (by omega))).setCell (by show w.heap.size≤w2.heap.size;omega) _);obtain⟨n0,n1,n2,n3⟩:=XN5.o.four;have nz:=XN5.o.frozen;obtain⟨r0,r1,r2,r3⟩:=XR5.o.four;have rz:=XR5.o.frozen;have hrg:¬w.heap.size+1=w2.heap.size:=fun e=>hgr e.symm
     have GF:=aa (cT (ao W6 (some (w.heap.size+1))) (.int .i64 num) (.slice a2 on k2) (.slice a5 KE.length k5) (.bool true));have EF:=aa (show ELA w.heap.size (cI W6 (w.heap.size+1) (.int .i64 num) (.slice a2 on k2) (.slice a5 KE.length k5) (.bool true)) a5 KE.length KE from((F5.o.1.grown G6.o hg4).grown GF.o hr4).lower (by omega));have PF:=aa (show PL (cI W6 (w.heap.size+1) (.int .i64 num) (.slice a2 on k2) (.slice a5 KE.length k5) (.bool true)) a2 on ops from((P3.o.later D5.o).grownBy G6.o (fun h0 p hp e=>(A3.o h0 p hp).2 (Fo e).symm)).grownBy GF.o (fun h0 p hp e=>by have h1:=(A3.o h0 p hp).1;have h2:w.heap.size+1=p.block:=Fo e;omega));have BF:=aa (show Below w.heap.size w (cI W6 (w.heap.size+1) (.int .i64 num) (.slice a2 on k2) (.slice a5 KE.length k5) (.bool true)) from bD B6.o (by omega) _ _ _ _);go_wp2_with fail;rw[←hW6.o];obtain⟨t0,t1,t2,t3⟩:=(XR6.o.bY (.int .i64 num) (.slice a2 on k2) (.slice a5 KE.length k5) (.bool true)).four;exact bodyPost_ret (v:=.tuple #[.agg #[.int .i64 num,.slice a2 on k2,.slice a5 KE.length k5,.bool true],.nilIface]) (by simp[results,Tryz.results116,go_sem,t0,t1,t2,t3]) rfl ⟨_,by rw[HF.o]<;>rfl,by rw[HA.o,HDB.o,Dbq.o];exact⟨a2,on,k2,a5,KE.length,k5,rfl,PF.o,fun h0 p hp=>by have h1:=(A3.o h0 p hp).1;omega,EF.o,C2.o,F5.o.2⟩,BF⟩
    ·go_simp
     skip
     refine hK.out _ _ ?_ (fun hHeld=>?_)
     ·(simp only[cell_drew,aq hr0];exact⟨b0,b1,b3⟩)
     clear hK K;refine wpAnyH_ready (rs:=[4]) (by kernel_rfl) (by simp) ?_;refine AllReadyH.cons (o:=_) rfl (fun K hK=>?_) AllReadyH.nil;go_simp
     (go_at_call 66;refine(eG oa on oc ops (w1.alloc (.cells #[.int .i64 0,.slice none 0 0,.slice none 0 0,.bool false] 90)).drew (HP1.o.later (af _ _).drew) hon).mono ?_;rintro e w2 ⟨a2,k2,rfl,P2,C2,A2,B2⟩;have D2:=aa (fQ B2.o);have hs2:w.heap.size<w2.heap.size:=Fm hr0 D2.o.size;have hgb:¬w1.heap.size=w.heap.size:=(by omega);have XZ:=aa ((Bx.db w1 #[.int .i64 0,.slice none 0 0,.slice none 0 0,.bool false] 90).later B2.o (by show w1.heap.size<(w1.alloc _).heap.size;simp));obtain⟨z0,z1,z2,z3⟩:=XZ.o.four;have zz:=XZ.o.frozen;obtain⟨c0,c1,c2,c3⟩:=(XB1.o.later D2.o hr0).four)
     refine hK.out _ _ ?_ (fun hHeld=>?_)
     ·exact⟨c0,c1,c3⟩
     clear hK K;refine wpAnyH_take (i:=7) (oi:=_) (v:=?v7au) rfl (by kernel_rfl) (by kernel_rfl) (by kernel_rfl) (fun _ _ _ h=>h) (Or.inl ⟨by rfl,?y7au⟩) (by assumption) ?r7au;case y7au =>
      intro w hSw
      (try dsimp only at hSw)
      go_simp
      first|done|with_reducible rfl
     skip
     refine wpAnyH_take (i:=8) (oi:=_) (v:=?v8au) rfl (by kernel_rfl) (by kernel_rfl) (by kernel_rfl) (fun _ _ _ h=>h) (Or.inl ⟨by rfl,?y8au⟩) (by assumption) ?r8au;case y8au =>
      intro w hSw
      (try dsimp only at hSw)
      go_simp
      first|done|with_reducible rfl
     skip
     refine wpAnyH_take (i:=9) (oi:=_) (v:=?v9au) rfl (by kernel_rfl) (by kernel_rfl) (by kernel_rfl) (fun _ _ _ h=>h) (Or.inl ⟨by rfl,?y9au⟩) (by assumption) ?r9au;case y9au =>
      intro w hSw
      (try dsimp only at hSw)
      go_simp
      first|done|with_reducible rfl
     skip
     refine wpAnyH_take (i:=10) (oi:=_) (v:=?v10au) rfl (by kernel_rfl) (by kernel_rfl) (by kernel_rfl) (fun _ _ _ h=>h) (Or.inl ⟨by rfl,?y10au⟩) (by assumption) ?r10au;case y10au =>
      intro w hSw
      (try dsimp only at hSw)
      go_simp
      first|done|with_reducible rfl
     skip
     refine wpAnyH_take (i:=11) (oi:=_) (v:=?v11au) rfl (by kernel_rfl) (by kernel_rfl) (by kernel_rfl) (fun _ _ _ h=>h) (Or.inl ⟨by rfl,?y11au⟩) (by assumption) ?r11au;case y11au =>
      intro w hSw
      (try dsimp only at hSw)
      go_simp
      first|done|with_reducible rfl
     skip
     refine wpAnyH_take (i:=12) (oi:=_) (v:=?v12au) rfl (by kernel_rfl) (by kernel_rfl) (by kernel_rfl) (fun _ _ _ h=>h) (Or.inl ⟨by rfl,?y12au⟩) (by assumption) ?r12au;case y12au =>
      intro w hSw
      (try dsimp only at hSw)
      go_simp
      first|done|with_reducible rfl
     skip
     refine wpAnyH_take (i:=13) (oi:=_) (v:=?v13au) rfl (by kernel_rfl) (by kernel_rfl) (by kernel_rfl) (fun _ _ _ h=>h) (Or.inl ⟨by rfl,?y13au⟩) (by assumption) ?r13au;case y13au =>
      intro w hSw
      (try dsimp only at hSw)
      go_simp
      first|done|with_reducible rfl
     skip
     refine wpAnyH_ready (rs:=[15]) (by kernel_rfl) (by simp) ?_;refine AllReadyH.cons (o:=_) rfl (fun K hK=>?_) AllReadyH.nil;go_simp
     skip
     refine hK.out _ _ ?_ (fun hHeld=>?_)
     ·(simp only[au hgb];exact⟨c0,c1,c3⟩)
     clear hK K;refine wpAnyH_done (by kernel_rfl) ?_ _;obtain⟨W3,hW3⟩:∃ W3:World,Hid (W3=cI w2 w1.heap.size (.int .i64 num) (.slice a2 on k2) (.slice none 0 0) (.bool true)):=⟨_,rfl⟩
     unfold cI at hW3;rw[←hW3.o];have hg1:w1.heap.size≤w1.heap.size:=Fq _;clear z0 z1 z2 z3 zz;have XN3:=aa (show Bx W3 w1.heap.size #[.int .i64 num,.slice a2 on k2,.slice none 0 0,.bool true] 90 by rw[hW3.o];exact XZ.o.bY _ _ _ _);have D3:=aa (show Below w1.heap.size w1 W3 by rw[hW3.o];exact bD D2.o (Fq _) _ _ _ _);have P3:=aa (show PL W3 a2 on ops by rw[hW3.o];exact P2.o.grownBy (cT (ao w2 (some w1.heap.size)) _ _ _ _) (fun _ p hp e=>by have h1:(w1.alloc (.cells #[.int .i64 0,.slice none 0 0,.slice none 0 0,.bool false] 90)).heap.size≤p.block:=A2.o p hp;rw[World.size_alloc] at h1;have h2:w1.heap.size=p.block:=Fo e;omega));have A3:=aa (show 0<on→∀ p,a2=some p→w1.heap.size≤p.block∧p.block≠w1.heap.size from fun _ p hp=>by have h1:(w1.alloc (.cells #[.int .i64 0,.slice none 0 0,.slice none 0 0,.bool false] 90)).heap.size≤p.block:=A2.o p hp;rw[World.size_alloc] at h1;exact⟨by omega,by omega⟩);have XB3:=aa (XB1.o.later D3.o hr0);have XR3:=aa (XR1.o.later D3.o hr1);have HE3:=aa (HE1.o.later D3.o);have hr3:w.heap.size+1<W3.heap.size:=XR3.o.lt;have hg3:w1.heap.size<W3.heap.size:=XN3.o.lt;have hgr:¬w1.heap.size=w.heap.size+1:=by omega
     clear b0 b1 b2 b3 c0 c1 c2 c3;obtain⟨b0,b1,b2,b3⟩:=XB3.o.four;go_wp2_with fail;refine(HKB.o W3 HE3.o).mono ?_;rintro e w4 ⟨a4,k4,rfl,E4,B4⟩;clear b0 b1 b2 b3;go_wp2_with fail;refine(eF a4 KE.length k4 KE w4 E4.o HKL.o HPS.o).mono ?_;rintro e w5 ⟨a5,k5,rfl,O5,B5⟩;have D5:=aa (show Below W3.heap.size W3 w5 from B4.o.trans (B5.o.mono B4.o.size));have XN5:=aa (XN3.o.later D5.o hg3);have XR5:=aa (XR3.o.later D5.o hr3);have F5:=aa (O5.o.full (Fq _));have hg4:w1.heap.size<w4.heap.size:=Fm hg3 B4.o.size;have hr4:w.heap.size+1<w4.heap.size:=Fm hr3 B4.o.size;obtain⟨W6,hW6⟩:∃ W6:World,Hid (W6=w5.setCell ⟨w1.heap.size,2,none⟩ (.slice a5 KE.length k5)):=⟨_,rfl⟩
     have G6:=aa (show w5.grownBy W6 (some w1.heap.size) by rw[hW6.o];exact ak (ao _ _) _ _);have XN6:=aa (show Bx W6 w1.heap.size #[.int .i64 num,.slice a2 on k2,.slice a5 KE.length k5,.bool true] 90 by rw[hW6.o];exact XN5.o.set 2 _);have XR6:=aa (show Bx W6 (w.heap.size+1) #[.int .i64 0,.slice none 0 0,.slice none 0 0,.bool false] 90 by rw[hW6.o];exact XR5.o.other ⟨w1.heap.size,2,none⟩ _ (fun e=>hgr e.symm));have B6:=aa (show Below w.heap.size w W6 by rw[hW6.o];exact(B1.o.trans ((D3.o.trans (D5.o.mono D3.o.size)).mono (by omega))).setCell (by show w.heap.size≤w1.heap.size;omega) _);obtain⟨n0,n1,n2,n3⟩:=XN5.o.four;have nz:=XN5.o.frozen;obtain⟨r0,r1,r2,r3⟩:=XR5.o.four;have rz:=XR5.o.frozen;have hrg:¬w.heap.size+1=w1.heap.size:=fun e=>hgr e.symm
     have GF:=aa (cT (ao W6 (some (w.heap.size+1))) (.int .i64 num) (.slice a2 on k2) (.slice a5 KE.length k5) (.bool true));have EF:=aa (show ELA w.heap.size (cI W6 (w.heap.size+1) (.int .i64 num) (.slice a2 on k2) (.slice a5 KE.length k5) (.bool true)) a5 KE.length KE from((F5.o.1.grown G6.o hg4).grown GF.o hr4).lower (by omega));have PF:=aa (show PL (cI W6 (w.heap.size+1) (.int .i64 num) (.slice a2 on k2) (.slice a5 KE.length k5) (.bool true)) a2 on ops from((P3.o.later D5.o).grownBy G6.o (fun h0 p hp e=>(A3.o h0 p hp).2 (Fo e).symm)).grownBy GF.o (fun h0 p hp e=>by have h1:=(A3.o h0 p hp).1;have h2:w.heap.size+1=p.block:=Fo e;omega));have BF:=aa (show Below w.heap.size w (cI W6 (w.heap.size+1) (.int .i64 num) (.slice a2 on k2) (.slice a5 KE.length k5) (.bool true)) from bD B6.o (by omega) _ _ _ _);go_wp2_with fail;rw[←hW6.o];obtain⟨t0,t1,t2,t3⟩:=(XR6.o.bY (.int .i64 num) (.slice a2 on k2) (.slice a5 KE.length k5) (.bool true)).four;exact bodyPost_ret (v:=.tuple #[.agg #[.int .i64 num,.slice a2 on k2,.slice a5 KE.length k5,.bool true],.nilIface]) (by simp[results,Tryz.results116,go_sem,t0,t1,t2,t3]) rfl ⟨_,by rw[HF.o]<;>rfl,by rw[HA.o,HDB.o,Dbq.o];exact⟨a2,on,k2,a5,KE.length,k5,rfl,PF.o,fun h0 p hp=>by have h1:=(A3.o h0 p hp).1;omega,EF.o,C2.o,F5.o.2⟩,BF⟩
 ·rw[bm hb]
  have HB:=aa hb;have HF:=aa (show Mx.dD ⟨num,ops,es,be⟩ n k=Mx.dD ⟨num,ops,es,be⟩ n k from rfl);clear hb;have HA:=aa (Mx.tA HF.o HB.o);go_wp2_with fail;obtain⟨t0,t1,t2,t3⟩:=(XR1.o.bY (.int .i64 0) (.slice none 0 0) (.slice none 0 0) (.bool false)).four;exact bodyPost_ret (v:=.tuple #[.agg #[.int .i64 0,.slice none 0 0,.slice none 0 0,.bool false],.iface 23 (.int .i64 (Mx.dD ⟨num,ops,es,be⟩ n k))]) (by simp[results,Tryz.results116,go_sem,t0,t1,t2,t3]) rfl ⟨_,by rw[bm HB.o]<;>rfl,by rw[HA.o];exact gH.zero _ _,aa (bD B1.o (by omega) _ _ _ _)⟩
end
section
variable {n k:Int}
namespace Mx
def cq (b:Bu) (n k:Int):Bool:=decide (dD b n k=0) && decide (b.num-k≤(aI b k).length)
def bG (b:Bu) (n k:Int):Ep:=if cq b n k then ⟨b.num,dU (aI b k)⟩ else ⟨0,[]⟩
theorem yJ {b:Bu} (h:dD b n k≠0):cq b n k=false∧bG b n k=⟨0,[]⟩:=by
 have h1:cq b n k=false:=by unfold cq;simp[h]
 exact⟨h1,by unfold bG;rw[h1];rfl⟩
theorem yM {b:Bu} (h:((aI b k).length:Int)<b.num-k):cq b n k=false∧bG b n k=⟨0,[]⟩:=by
 have h1:cq b n k=false:=by unfold cq;rw[show decide (b.num-k≤(aI b k).length)=false by simp;omega];simp
 exact⟨h1,by unfold bG;rw[h1];rfl⟩
theorem Bm {b:Bu} (h:dD b n k=0) (h2:¬((aI b k).length:Int)<b.num-k):cq b n k=true∧bG b n k=⟨b.num,dU (aI b k)⟩:=by
 have h1:cq b n k=true:=by unfold cq;simp[h];omega
 exact⟨h1,by unfold bG;rw[h1];rfl⟩
def gW (es:List Ep):List (Option B8):=dt gT (es.flatMap (·.aH))
theorem td {es:List Ep} {j:Nat} {e:Ep} (h:es[j]?=some e):gW (es.take (j+1))=dt (gW (es.take j)) e.aH:=by
 unfold gW;rw[aL _ _ _ h,List.flatMap_append,lv];simp
theorem gj {b:Bu} (h:fi b n=true) (hn:n≤32):∀ e∈aI b k,∀ q∈e.aH,0≤q.at_∧q.at_<32:=by
 intro e he q hq;obtain⟨i,hi⟩:=List.mem_iff_getElem?.1 (lB e he);exact kX (nS (iP (bW h).2.2 hi).1 hn) q hq
theorem Ci {es:List Ep} (h:∀ e∈es,∀ q∈e.aH,0≤q.at_∧q.at_<32):aM 0 (gW es)=dU es:=by
 unfold gW dU;exact oZ (fun q hq=>by
  obtain⟨e,he,hq'⟩:=List.mem_flatMap.1 hq;exact h e he q hq')
end Mx
theorem yk (num:Int) (oa:Option Addr) (on oc:Nat) (sa:Option Addr) (sn sc:Nat) (be:Bool) (ops:List Pt) (es:List Ep) (n:Int) (k:Int) (w:World) (hp:PL w oa on ops) (he:EL w sa sn es) (hsm:Mx.small ops es) (hsc:sn≤sc) :
 Calls Tryz.prog 125 #[.agg #[.int .i64 num,.slice oa on oc,.slice sa sn sc,.bool be],.int .i64 n,.int .i64 k] w fun e w' =>
  ∃ (pa:Option Addr) (pn pk:Nat),e=.returned (.tuple #[.agg #[.int .i64 (Mx.bG ⟨num,ops,es,be⟩ n k).num,.slice pa pn pk],.bool (Mx.cq ⟨num,ops,es,be⟩ n k),bI (Mx.dD ⟨num,ops,es,be⟩ n k)])∧Hid (PL w' pa pn (Mx.bG ⟨num,ops,es,be⟩ n k).aH)∧Hid (Below w.heap.size w w'):=by
 obtain⟨w0,hw0⟩:∃ w0:World,Hid (w0=(w.alloc (.cells #[.int .i64 num,.slice oa on oc,.slice sa sn sc,.bool be] 90)).alloc (.cells #[.int .i64 0,.slice none 0 0] 148)):=⟨_,rfl⟩
 have XB:=aa (show Bx w0 w.heap.size #[.int .i64 num,.slice oa on oc,.slice sa sn sc,.bool be] 90 by rw[hw0.o];exact(Bx.new w _ _).alloc _);have XR:=aa (show Bx w0 (w.heap.size+1) #[.int .i64 0,.slice none 0 0] 148 by
  rw[hw0.o];have h:=Bx.new (w.alloc (.cells #[.int .i64 num,.slice oa on oc,.slice sa sn sc,.bool be] 90)) #[.int .i64 0,.slice none 0 0] 148;rw[World.size_alloc] at h;exact h)
 have B0:=aa (show Below w.heap.size w w0 by rw[hw0.o];exact(af _ _).alloc (by simp) _);have HP0:=aa (hp.later B0.o);have HE0:=aa (he.later B0.o);have HEN:=aa he.1;have HPN:=aa hp.1;have HSM:=aa hsm;have hsn:sn≤1000:=by have:=he.1;have:=hsm.2.1;omega
 have hon:on≤1000:=by have:=hp.1;have:=hsm.2.2;omega
 clear hp he hsm;go_enter Tryz.func125,Tryz.ntmps125;go_wp2_with fail;rw[←hw0.o];refine(iZ num oa on oc sa sn sc be ops es n k w0 HP0.o HE0.o).mono ?_;rintro e w1 ⟨rfl,hb1⟩;have XB1:=aa (XB.o.later hb1 XB.o.lt);have XR1:=aa (XR.o.later hb1 XR.o.lt);have B1:=aa (B0.o.trans (hb1.mono B0.o.size));have HP1:=aa (HP0.o.later hb1);have HE1:=aa (HE0.o.later hb1);clear hb1;have hr1:w.heap.size+1<w1.heap.size:=XR1.o.lt;have hr0:w.heap.size<w1.heap.size:=XB1.o.lt;have hrb:¬w.heap.size+1=w.heap.size:=by omega
 obtain⟨b0,b1,b2,b3⟩:=XB1.o.four;obtain⟨r0,r1⟩:=XR1.o.pair;have rz:=XR1.o.frozen;by_cases hb:Mx.dD ⟨num,ops,es,be⟩ n k=0
 ·have HF:=aa hb
  obtain⟨hb1,hk0,hkn⟩:=Mx.uG hb;rw[hb,aF];clear hb;have HOK:=aa (Mx.bN hb1);have hnum:num≤2147483647:=HOK.o.1.2.2.2;have HKL:=aa (show(Mx.aI ⟨num,ops,es,be⟩ k).length≤1000 by have h1:=Mx.lj (b:=⟨num,ops,es,be⟩) (k:=k);have h2:es.length=sn:=HEN.o;have h3:(Mx.aI ⟨num,ops,es,be⟩ k).length≤es.length:=h1;omega);have HRI:=aa (Mx.gj (k:=k) HOK.o.2.2 HOK.o.1.2.1);have HPE:=aa (Mx.Ci HRI.o);clear hb1;have KB:=fun(w:World) (he:EL w sa sn es)=>jT num oa on oc sa sn sc be ⟨num,ops,es,be⟩ k w rfl he hsc hk0 hkn hnum hsn
  have HKB:=aa KB;clear KB;have HFAR:=aa (Mx.yM (b:=⟨num,ops,es,be⟩) (n:=n) (k:=k));have HOKS:=aa (Mx.Bm (b:=⟨num,ops,es,be⟩) (n:=n) (k:=k) HF.o);obtain⟨KE,hKE⟩:∃ KE,Hid (KE=Mx.aI ⟨num,ops,es,be⟩ k):=⟨_,rfl⟩
  rw[←hKE.o] at HKB HKL HRI HPE HFAR HOKS;obtain⟨KN,hKN⟩:∃ KN:Nat,Hid (KN=KE.length):=⟨_,rfl⟩
  rw[←hKN.o] at HKB HKL HFAR HOKS;go_wp2_with fail;refine(HKB.o w1 HE1.o).mono ?_;rintro e w2 ⟨a2,k2,rfl,E2,B2⟩;have C2:=aa (B1.o.trans (B2.o.mono B1.o.size));have XB2:=aa (XB1.o.later B2.o hr0);have XR2:=aa (XR1.o.later B2.o hr1);have hr2:w.heap.size+1<w2.heap.size:=XR2.o.lt;have hb2:w.heap.size<w2.heap.size:=XB2.o.lt;have hkl:KN≤1000:=HKL.o;clear b0 b1 b2 b3 r0 r1 rz;obtain⟨b0,b1,b2,b3⟩:=XB2.o.four;obtain⟨r0,r1⟩:=XR2.o.pair;have rz:=XR2.o.frozen;by_cases hfar:(KN:Int)<num-k
  ·have df:decide ((KN:Int)<num-k)=true:=by simpa using hfar
   have HSN:=aa (HFAR.o hfar);go_wp2_with fail;obtain⟨t0,t1⟩:=(XR2.o.fx (.int .i64 0) (.slice none 0 0)).pair;exact bodyPost_ret (v:=.tuple #[.agg #[.int .i64 0,.slice none 0 0],.bool false,.nilIface]) (by simp[results,Tryz.results125,go_sem,t0,t1]) rfl ⟨none,0,0,by rw[HSN.o.1,HSN.o.2,HF.o]<;>rfl,by rw[HSN.o.2];exact PL.nil _,aa (dI C2.o (by omega) _ _)⟩
  ·have df:decide ((KN:Int)<num-k)=false:=by simpa using hfar
   have HSN:=aa (HOKS.o (by omega));clear hfar;have hz:=mr;go_wp2_with fail;clear hz;obtain⟨W3,hW3⟩:∃ W3:World,Hid (W3=w2.alloc (.cells Zc 141)):=⟨_,rfl⟩
   rw[←hW3.o];have L3:=aa (show LB W3 w2.heap.size Mx.gT by rw[hW3.o];exact LB.new w2);have D3:=beA hW3;clear b0 b1 b2 b3 r0 r1 rz;go_loopw [35] (fun t wr=>∃ j:Nat,j≤KN∧t=.int .i64 (j:Int)∧Hid (LB wr w2.heap.size (Mx.gW (KE.take j)))∧Hid (Below w2.heap.size w2 wr)) (fun t _=>KN-(intOf t).toNat)
   case atStart=>exact⟨0,by omega,rfl,L3,D3⟩
   case round =>
    obtain⟨j,hj,rfl,hL,hB⟩:=hrel;by_cases hlt:j<KN
    ·obtain⟨b,off,e,ai,ni,ci,hab,hbl,hx,e0,e1,hp,hc⟩:=E2.o.at_ j hlt
     subst hab;obtain⟨z,ps⟩:=e;have f0:=(hB.o.cell (p:=⟨b,off+j*2,none⟩) hbl).trans e0;have f1:=(hB.o.cell (p:=⟨b,off+j*2+1,none⟩) hbl).trans e1;have HP:=aa hp;have HX:=aa hx;have HRJ:=aa (HRI.o _ (Fy hx));dsimp only at f0;clear hx hp e0 e1;obtain⟨W4,hW4⟩:∃ W4:World,Hid (W4=wr.alloc (.cells #[.int .i64 z,.slice ai ni ci] 148)):=⟨_,rfl⟩
     have D4:=beA hW4;have C4:=aa (hB.o.trans (D4.o.mono hB.o.size));have L4:=aa (hL.o.later D4.o hL.o.2.lt);have hgw:w2.heap.size<W4.heap.size:=L4.o.2.lt;go_wp2_with fail;rw[←hW4.o];refine(mS w2.heap.size ai ni ci ps _ W4 L4.o (HP.o.later C4.o) (HP.o.off (Fq _)) HRJ.o).mono ?_;rintro e w5 ⟨rfl,L5,G5⟩;have C5:=aa (C4.o.trans (jE G5.o (Nat.le_of_lt hgw)));have LN:=aa (show LB w5 w2.heap.size (Mx.gW (KE.take (j+1))) by rw[Mx.td HX.o];exact L5.o);clear f0 f1;go_wp2_with fail;go_roundw
     case rel=>exact⟨j+1,by omega,by go_num,LN,C5⟩
     case measure=>simp[intOf];omega
    ·have LF:=aa (show LB wr w2.heap.size (Mx.gW KE) by
      have h:=hL.o;rw[Ft (by rw[←hKN.o];omega)] at h;exact h)
     have XB4:=aa (XB2.o.later hB.o hb2);have XR4:=aa (XR2.o.later hB.o hr2);have hb4:w.heap.size<wr.heap.size:=XB4.o.lt;have hr4:w.heap.size+1<wr.heap.size:=XR4.o.lt;obtain⟨b0,b1,b2,b3⟩:=XB4.o.four;go_wp2_with fail;go_region_held3 (fun w'=>w'.cell? ⟨w.heap.size,0,none⟩=some (.int .i64 num))
      (first
        | with_reducible exact c0
        |(simp only[cell_drew];with_reducible exact b0)
        |(simp only[au hrb];with_reducible exact c0))
      (first
        |(go_at_call 62;refine(sj w2.heap.size _ wr.drew LF.o.drew).mono ?_;rintro e w5 ⟨a5,k5,rfl,O5,B5⟩;have D5:=aa (iA B5.o);have c0:=(XB4.o.later D5.o hb4).cell 0;simp only[Fk,Fi] at c0;obtain⟨r0,r1⟩:=(XR4.o.later D5.o hr4).pair;have rz:=(XR4.o.later D5.o hr4).frozen))
     all_goals
      clear b0 b1 b2 b3 c0 r0 r1 rz;rw[HPE.o] at O5 ⊢;obtain⟨N5,hN5⟩:∃ N5:Nat,Hid (N5=(Mx.dU KE).length):=⟨_,rfl⟩
      rw[←hN5.o] at O5 ⊢;have F5:=aa (O5.o.full);have XR5:=aa (XR4.o.later D5.o hr4);have BF:=aa (show Below w.heap.size w (ep w5 (w.heap.size+1) (.int .i64 num) (.slice a5 N5 k5)) from dI (C2.o.trans ((hB.o.trans (D5.o.mono hB.o.size)).mono (by omega))) (by omega) _ _);have PF:=aa (show PL (ep w5 (w.heap.size+1) (.int .i64 num) (.slice a5 N5 k5)) a5 N5 (Mx.dU KE) from F5.o.1.grownBy (iL (ao w5 (some (w.heap.size+1))) _ _) (fun _ p hp e=>by have h1:wr.heap.size≤p.block:=F5.o.2.2 p hp;have h2:w.heap.size+1=p.block:=Fo e;omega));go_wp2_with fail;obtain⟨t0,t1⟩:=(XR5.o.fx (.int .i64 num) (.slice a5 N5 k5)).pair;exact bodyPost_ret (v:=.tuple #[.agg #[.int .i64 num,.slice a5 N5 k5],.bool true,.nilIface]) (by simp[results,Tryz.results125,go_sem,t0,t1]) rfl ⟨a5,N5,k5,by rw[HSN.o.1,HSN.o.2,HF.o]<;>rfl,by rw[HSN.o.2];exact PF,BF⟩
 ·rw[bm hb]
  have HB:=aa hb;clear hb;have HSN:=aa (Mx.yJ (b:=⟨num,ops,es,be⟩) HB.o);go_wp2_with fail;obtain⟨t0,t1⟩:=(XR1.o.fx (.int .i64 0) (.slice none 0 0)).pair;exact bodyPost_ret (v:=.tuple #[.agg #[.int .i64 0,.slice none 0 0],.bool false,.iface 23 (.int .i64 (Mx.dD ⟨num,ops,es,be⟩ n k))]) (by simp[results,Tryz.results125,go_sem,t0,t1]) rfl ⟨none,0,0,by rw[HSN.o.1,HSN.o.2,bm HB.o]<;>rfl,by rw[HSN.o.2];exact PL.nil _,aa (dI B1.o (by omega) _ _)⟩
end
end Go.Proofs.YtbicgjafjjihdaaGreat
