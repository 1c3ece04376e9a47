/- Part. -/
import Derived.Test.YtbicgjafjjihdaaGreatZ16
set_option maxHeartbeats 16000000
set_option maxRecDepth 100000
namespace Go.Proofs.YtbicgjafjjihdaaGreat
open Go.RowKit
section
variable {n g h:Nat} {w w0 w':World} {left:Int}
theorem Mx.ux {us:List Pt} (hv:Mx.ccV n us=.nilIface):∀ (k:Nat) (p:Pt),us[k]?=some p→0≤p.at_∧p.at_<(n:Int):=fun k p hk=>by
 by_cases hi:Mx.inside n p.at_=true
 ·unfold Mx.inside at hi
  simpa using hi
 ·rw[Mx.uy hk (by simpa using hi)] at hv
  cases hv
theorem Sst.base {ls:List B8} {ps:List Pt} {L:Nat} (hs:Sst w0 g n h ls ps left L w') (hg:w.grownBy w0 (some g)):Sst w g n h ls ps left L w':=by
 obtain⟨a1,c1,a2,pn,c2,S0,G0,L0⟩:=hs;exact⟨a1,c1,a2,pn,c2,S0,hg.trans G0,L0⟩
theorem Sdd.base {q:Nat} {ls bl:List B8} {a b:Int} (hs:Sdd w0 g n h q ls bl a b left w') (hg:w.grownBy w0 (some g)):Sdd w g n h q ls bl a b left w':=by
 obtain⟨l1,p1,a1,c1,a2,pn,c2,S0,G0,L0⟩:=hs;exact⟨l1,p1,a1,c1,a2,pn,c2,S0,hg.trans G0,L0⟩
theorem tZ (g n h:Nat) (ls:List B8) (left:Int) (sa:Option Addr) (sc:Nat) (pa:Option Addr) (pc:Nat) (w:World) (hs:StW w g n h ls [] left sa sc pa 0 pc) (ua:Option Addr) (un uc:Nat) (us:List Pt) (hu:PL w ua un us) (a b:Int) (hun:un≤n) (ha0:0≤a) (ha1:a≤2147483647) (hb0:0≤b) (hb1:b≤2147483647) (hv:Mx.ccV n us=.nilIface) (hl:left≠0) :
 Calls Tryz.prog 42 #[.pointer (some ⟨g,0,none⟩),.slice ua un uc,.int .i64 a,.int .i64 b] w fun e w'=>(e=.returned .nilIface∧Mx.CI w g n h (1-h) ls (Mx.aD (Mx.vw n h ls) us) a b left 6 w')∨(e=.returned (.iface 23 (.int .i64 4))∧Sdd w g n h (1-h) ls (Mx.aD (Mx.vw n h ls) us) a b left w'):=by
 have HU:=aa hu;clear hu;have HH:=aa hs;have hgw:g<w.heap.size:=Bx.lt hs.bx;clear hs;obtain⟨W0,hW0⟩:∃ W0:World,Hid (W0=((w.alloc (.cells #[.pointer (some ⟨g,0,none⟩)] 84)).alloc (.cells #[.int .i64 a] 3)).alloc (.cells #[.int .i64 b] 3)):=⟨_,rfl⟩
 have Z0:=aa (show W0.heap.size=w.heap.size+3 by rw[hW0.o];simp);have D0:=aa (show Below w.heap.size w W0 by rw[hW0.o];exact((af _ _).alloc (af _ _).size _).alloc ((af _ _).alloc (af _ _).size _).size _);have X4:=aa (show Bx W0 w.heap.size #[.pointer (some ⟨g,0,none⟩)] 84 by rw[hW0.o];exact((Bx.new w _ _).later (af _ _) (Bx.new w _ _).lt).later (af _ _) (by simp;omega));have X6:=aa (show Bx W0 (w.heap.size+1) #[.int .i64 a] 3 by rw[hW0.o];exact(show Bx _ (w.heap.size+1) _ _ from by simpa using (Bx.new (w.alloc (.cells #[.pointer (some ⟨g,0,none⟩)] 84)) #[.int .i64 a] 3)).later (af _ _) (by simp));have X7:=aa (show Bx W0 (w.heap.size+1+1) #[.int .i64 b] 3 by rw[hW0.o];simpa using (Bx.new ((w.alloc (.cells #[.pointer (some ⟨g,0,none⟩)] 84)).alloc (.cells #[.int .i64 a] 3)) #[.int .i64 b] 3));have H0:=aa (HH.o.later D0.o);go_enter Tryz.func42,Tryz.ntmps42;change aA Tryz.f42 _ 0 _ w;refine aj rfl ?_;intro K hK;go_wp2_with fail;rw[←hW0.o];refine Met.intro (aj rfl ?_);try clear hK
 try clear K
 intro K hK;have x4:=X4.o.cell 0;have x6:=X6.o.cell 0;have x7:=X7.o.cell 0;go_wp2_with fail;refine(BS g n h ls [] left sa sc pa 0 pc W0 H0.o ua un uc us (HU.o.later D0.o) a b hun ha0 ha1 hb0 hb1).mono ?_;rintro e w1 ⟨rfl,E1⟩;have HV:=aa hv;rw[hv];have D1:=aa (show Below w.heap.size w w1 from D0.o.trans (E1.o.mono D0.o.size));have HL:=aa hl;clear hv hl;have H1:=aa (HH.o.later D1.o);have y4:=(X4.o.later E1.o X4.o.lt).cell 0;clear x4 x6 x7;go_wp2_with fail;refine Met.intro (aj rfl ?_);try clear hK
 try clear K
 intro K hK;go_wp2_with fail;refine(uY g n h ls [] left sa sc pa 0 pc w1 H1.o rfl HL.o).mono ?_;rintro e w2 ⟨p,rfl,O2,E2⟩;have D2:=aa (show Below w.heap.size w w2 from D1.o.trans (E2.mono D1.o.size));have F2:=aa (show Below W0.heap.size W0 w2 from E1.o.trans (E2.mono E1.o.size));have HO2:=aa O2;have HE2:=aa E2;clear O2 E2;obtain⟨W3,hW3⟩:∃ W3:World,Hid (W3=w2.alloc (.cells #[.slice (some ⟨p,0,none⟩) n n] 26)):=⟨_,rfl⟩
 clear y4;go_wp2_with fail;rw[←hW3.o];have hn1:=HH.o.n1;have hn2:=HH.o.n2;have hh1:=HH.o.h1;have hp1:=aa HO2.o.fz.1;have hp2:=aa HO2.o.fz.2.1;have E3:=aa (show Below w1.heap.size w1 W3 by rw[hW3.o];exact HE2.o.alloc HE2.o.size _);have O3:=aa (show au W3 w1.heap.size (.slice (some ⟨p,0,none⟩) n n) (Mx.vw n h ls) by rw[hW3.o];exact bm HO2.o (af _ _));have X10:=bxA hW3;have x10:=aa (X10.o.cell 0);have l10:=aa X10.o.lt;have s1:=aa E1.o.size;have s2:=aa HE2.o.size;clear HO2 D2 F2;refine Met.intro (aj rfl ?_);try clear hK
 try clear K
 intro K hK;go_wp2_with fail;refine Met.intro (aj rfl ?_);try clear hK
 try clear K
 intro K hK;go_wp2_with fail;go_loopw [33] (fun t wr=>∃ k:Nat,t=.int .i64 (k:Int)∧k≤un∧Hid (au wr w1.heap.size (.slice (some ⟨p,0,none⟩) n n) (Mx.aD (Mx.vw n h ls) (us.take k)))∧Hid (Below w1.heap.size w1 wr)∧Hid (wr.cell? ⟨w2.heap.size,0,none⟩=some (.slice (some ⟨p,0,none⟩) n n))∧Hid (w2.heap.size<wr.heap.size)) (fun t _=>un-(intOf t).toNat)
 case atStart=>exact⟨0,rfl,by omega,by rw[List.take_zero];exact O3,E3,x10,l10⟩
 case round =>
  obtain⟨k,rfl,hk,hO,hB,hC,hL⟩:=hrel;have hD:=aa (show Below w.heap.size w wr from D1.o.trans (hB.o.mono D1.o.size));by_cases hku:k<un
  ·have hki:(k:Int)<un:=by omega
   obtain⟨bb,off,pt,hba,hbw,hp,c0,c1,c2,c3,c4,c5,c6,c7,c8⟩:=(HU.o.later hD.o).at_ k hku;subst hba;have HP:=aa hp;clear hp;obtain⟨i,hi⟩:∃ i:Nat,Hid (pt.at_=(i:Int)):=⟨pt.at_.toNat,by have h9:=Mx.ux HV.o k pt HP.o;unfold Hid;omega⟩
   have hin:i<n:=by have h9:=Mx.ux HV.o k pt HP.o;have h8:=hi.o;omega
   rw[hi.o] at c0;have hii:(i:Int)<n:=by omega
   obtain⟨W4,hW4⟩:∃ W4:World,Hid (W4=wr.alloc (.cells #[.int .i64 (i:Int),.int .u8 pt.d.z0,.int .u8 pt.d.z1,.int .u8 pt.d.z2,.int .u8 pt.d.z3,.int .u8 pt.d.z4,.int .u8 pt.d.z5,.int .u8 pt.d.z6,.int .u8 pt.d.z7] 111)):=⟨_,rfl⟩
   have hC4:=(show W4.cell? ⟨w2.heap.size,0,none⟩=some (.slice (some ⟨p,0,none⟩) n n) by rw[hW4.o,aq hL.o];exact hC.o)
   have X4p:=bxA hW4;have O4:=aa (show au W4 w1.heap.size (.slice (some ⟨p,0,none⟩) n n) (Mx.aD (Mx.vw n h ls) (us.take k)) by rw[hW4.o];exact bm hO.o (af _ _));have B4:=aa (show Below w1.heap.size w1 W4 by rw[hW4.o];exact hB.o.alloc hB.o.size _);obtain⟨y,_,e0,e1,e2,e3,e4,e5,e6,e7⟩:=O4.o.at_ i hin;have hfz:=O4.o.fz.2.2;have hln:=aa (show(Mx.aD (Mx.vw n h ls) (us.take k)).length=n by rw[Mx.cP,Mx.EO]);have O5:=aa (show au (aS W4 p (i*8) pt.d) w1.heap.size (.slice (some ⟨p,0,none⟩) n n) (Mx.aD (Mx.vw n h ls) (us.take (k+1))) by
    have h9:=au.put O4.o i (by rw[hln.o];exact hin) pt.d;rw[Mx.gq _ _ _ _ HP.o,hi.o,Int.toNat_natCast];exact h9)
   have B5:=aa (bQ B4.o hp2.o (i*8) pt.d);have hne:¬p=w2.heap.size:=by have:=hp1.o;omega
   have C5:=aa (show(aS W4 p (i*8) pt.d).cell? ⟨w2.heap.size,0,none⟩=some (.slice (some ⟨p,0,none⟩) n n) by unfold aS;simp only[aw hne];exact hC4);have L5:=aa (show w2.heap.size<(aS W4 p (i*8) pt.d).heap.size by unfold aS;simp;rw[hW4.o];simp;have:=hL.o;omega);go_upto_region 10 with fail
   rw[←hW4.o];clear c0 c1 c2 c3 c4 c5 c6 c7 c8;have f0:=X4p.o.cell 0;have f1:=X4p.o.cell 1;have f2:=X4p.o.cell 2;have f3:=X4p.o.cell 3;have f4:=X4p.o.cell 4;have f5:=X4p.o.cell 5;have f6:=X4p.o.cell 6;have f7:=X4p.o.cell 7;have f8:=X4p.o.cell 8;have hqw:¬wr.heap.size=p:=by have h8:=hO.o.fz.1;omega
   unfold aS at O5 B5 C5 L5;go_wp2_with fail;exact⟨⟨k+1,by go_num,by omega,O5,B5,C5,L5⟩,by simp[intOf];omega⟩
  ·obtain rfl:k=un:=by omega
   have HT:=aa (show us.take k=us from FH (by rw[HU.o.1];exact FG _));rw[HT.o] at hO;have FW:=aa (show Below W0.heap.size W0 wr from E1.o.trans (hB.o.mono E1.o.size));have HR:=aa (HH.o.later hD.o);obtain⟨x0,x1,x2,x3,x4⟩:=HR.o.bx.cells;have y4:=(X4.o.later FW.o X4.o.lt).cell 0;have hq1:(1:Int)-(h:Int)=((1-h:Nat):Int):=by omega
   have lsz:=aa (Fz X7.o.lt FW.o.size);obtain⟨W5,hW5⟩:∃ W5:World,Hid (W5=wr.alloc (.cells #[.int .i64 ((1-h:Nat):Int)] 3)):=⟨_,rfl⟩
   go_wp2_with fail;refine Met.intro (aj rfl ?_);try clear hK
   try clear K
   intro K hK;go_wp2_with fail;rw[←hW5.o];have FV:=aa (show Below W0.heap.size W0 W5 by rw[hW5.o];exact FW.o.alloc FW.o.size _);have z4:=(X4.o.later FV.o X4.o.lt).cell 0;have hz5:=aa (show W5.heap.size=wr.heap.size+1 by rw[hW5.o];simp);clear x0 x1 x2 x3 x4 y4 hq1;refine Met.intro (aM (c:=.seq _ .ret) rfl ?_);try clear hK
   try clear K
   go_wp2_with fail;obtain⟨W6,hW6⟩:∃ W6:World,Hid (W6=W5.alloc (.cells #[.func (.func 69) #[] #[.pointer (some ⟨w.heap.size,0,none⟩),.pointer (some ⟨wr.heap.size,0,none⟩),.pointer (some ⟨w2.heap.size,0,none⟩)],.func (.func 71) #[] #[.pointer (some ⟨w.heap.size,0,none⟩),.pointer (some ⟨wr.heap.size,0,none⟩),.pointer (some ⟨w.heap.size+1,0,none⟩),.pointer (some ⟨w.heap.size+1+1,0,none⟩)],.func (.func 74) #[.pointer (some ⟨g,0,none⟩)] #[],.func (.func 75) #[] #[.pointer (some ⟨w.heap.size,0,none⟩),.pointer (some ⟨wr.heap.size,0,none⟩)],.func (.func 74) #[.pointer (some ⟨g,0,none⟩)] #[],.func (.func 76) #[] #[.pointer (some ⟨wr.heap.size,0,none⟩),.pointer (some ⟨w.heap.size,0,none⟩)]] 75)):=⟨_,rfl⟩
   rw[←hW6.o];clear z4;have F5:=beA hW5;have F6:=aa (show Below wr.heap.size wr W6 by rw[hW6.o];exact F5.o.alloc F5.o.size _);have F65:=beA hW6;have D6:=aa (show Below w.heap.size w W6 from hD.o.trans (F6.o.mono hD.o.size));have F06:=aa (show Below W0.heap.size W0 W6 from FW.o.trans (F6.o.mono FW.o.size));have XR:=bxA hW6;have X14:=aa ((bxA hW5).o.later F65.o (by have:=hz5.o;omega));have hsz:=aa hD.o.size;have CM:=aa (show Cmt W6 W5.heap.size g n h (1-h) w.heap.size (w.heap.size+1) (w.heap.size+1+1) w2.heap.size wr.heap.size (some ⟨p,0,none⟩) n (Mx.aD (Mx.vw n h ls) us) a b from
    {r0:=XR.o.cell 0,r1:=XR.o.cell 1,r2:=XR.o.cell 2,r3:=XR.o.cell 3,r4:=XR.o.cell 4,r5:=XR.o.cell 5,
     c4:=(X4.o.later F06.o X4.o.lt).cell 0,c6:=(X6.o.later F06.o X6.o.lt).cell 0,c7:=(X7.o.later F06.o X7.o.lt).cell 0,
     c10:=(F6.o.cell (p:=⟨w2.heap.size,0,none⟩) hL.o).trans hC.o,c14:=X14.o.cell 0,
     rg:=by have h1:=hsz.o;have h2:=hz5.o;omega,n4:=by omega,n6:=by omega,n7:=by omega,
     n10:=by have h1:=D1.o.size;have h2:=s2.o;omega,n14:=by have h1:=hsz.o;omega,
     l4:=(X4.o.later F06.o X4.o.lt).lt,l6:=(X6.o.later F06.o X6.o.lt).lt,l7:=(X7.o.later F06.o X7.o.lt).lt,l14:=X14.o.lt,
     hb:=(hO.o.qY).later F6.o,hbg:=fun _ q hq=>by cases hq;have h1:=D1.o.size;have h2:=hp2.o;show p≠g;omega,
     hq:=by omega,ha0:=ha0,ha1:=ha1,hb0:=hb0,hb1:=hb1})
   have I6:=aa (show Mx.CI W6 g n h (1-h) ls (Mx.aD (Mx.vw n h ls) us) a b left 0 W6 from⟨sa,sc,pa,0,pc,by rw[Mx.kA];exact HH.o.later D6.o,ar _ _,by omega⟩);refine(Er CM.o W6 I6.o).mono ?_;rintro e w7 (⟨rfl,hN⟩|⟨rfl,hN⟩)
   ·have HN:=aa (Sst.base hN (bG D6.o _))
    clear hN;go_wp2_with fail;exact bodyPost_ret (v:=.nilIface) (by simp[results,Tryz.results42,go_sem]) rfl (.inl ⟨rfl,HN.o⟩)
   ·have HN:=aa (Sdd.base hN (bG D6.o _))
    clear hN;go_wp2_with fail;exact bodyPost_ret (v:=.iface 23 (.int .i64 4)) (by simp[results,Tryz.results42,go_sem]) rfl (.inr ⟨rfl,HN.o⟩)
end
section
variable {n h q:Nat} {a b a0 b0:Int}
namespace Mx
structure Hd (n h:Nat) (ls:List B8) (bl:List B8) (a b:Int):Prop extends vi n h ls bl a b where
 mk0:0≤(ls.getD 0 zB).z0
 n1:1≤n
 n2:n≤32
 a0:0≤a
 a1:a≤2147483647
 b0:0≤b
 b1:b≤2147483647
theorem Hd.zero (h1:1≤n) (h2:n≤32):Hd n 0 (List.replicate (sz n) zB) (List.replicate n zB) 0 0 :=
 {yx n with
  mk0:=by
   rw[Fu,List.getElem?_replicate];split<;>exact Int.le_refl 0
  n1:=h1,n2:=h2,a0:=by omega,a1:=by omega,b0:=by omega,b1:=by omega}
theorem vi.view {ls bl:List B8} (H:vi n h ls bl a b):vw n h ls=bl:=by
 apply List.ext_getElem?;intro i;unfold vw;rw[List.getElem?_map];by_cases hi:i<n
 ·rw[List.getElem?_range hi]
  have h3:=H.blk i hi;have h4:i<bl.length:=by rw[H.bln];exact hi
  rw[Ft h4,Option.map_some,h3,Fu,Ft h4];rfl
 ·rw[List.getElem?_eq_none (l:=bl) (by rw[H.bln];omega),List.getElem?_eq_none (l:=List.range n) (by rw[List.length_range];omega)]
  rfl
theorem As (h0:0≤a) (h1:a≤2147483647) (h2:0≤b) (h3:b≤2147483647):by8 (dJ a b):=by
 unfold by8 dJ;simp only;omega
theorem tE {ls:List B8} {ps:List Pt} (hp:∀ p∈ps,0≤p.at_∧p.at_<ls.length) (k:Nat) (h:∀ p∈ps,p.at_≠(k:Int)):(aD ls ps).getD k zB=ls.getD k zB:=by
 rw[gp ls ps hp,zN ls ps k h,Int.toNat_natCast]
theorem AV {ls bl bl':List B8} (H:Hd n h ls bl a0 b0) (hq:q=1-h) (hb:bl'.length=n) {ls':List B8} (hl:ls'.length=sz n) (h0:(ls'.getD 0 zB).z0=(q:Int))
 (hk:∀ k,0<k→ls'.getD k zB=(aD ls (fa n q bl' a b)).getD k zB) (ha0:0≤a) (ha1:a≤2147483647) (hb0:0≤b) (hb1:b≤2147483647):Hd n q ls' bl' a b:=by
 have hh:=H.half;have hq1:q≤1:=by omega
 have hin:=uS (n:=n) (q:=q) (bl:=bl') (a:=a) (b:=b) hq1;have hin':∀ p∈fa n q bl' a b,0≤p.at_∧p.at_<(ls.length:Int):=by rw[H.len];exact hin
 refine {len:=hl,bln:=hb,half:=hq1,mark:=by rw[h0];omega,blk:=?_,ak:=?_,mk0:=by rw[h0];omega,n1:=H.n1,n2:=H.n2,a0:=ha0,a1:=ha1,b0:=hb0,b1:=hb1}
 ·intro i hi
  have hne:¬((npl n q:Nat):Int)=((bpl n q i:Nat):Int):=fun e=>Da hq1 hq1 hi (by omega)
  rw[hk _ (CF n q i),gp ls _ hin'];show dB ls (cQ n q bl' n++[⟨(npl n q:Int),dJ a b⟩]) _=_
  rw[gE,if_neg hne];exact vF hq1 (FG _) hi
 ·rw[hk _ (Db n q),gp ls _ hin']
  show dB ls (cQ n q bl' n++[⟨(npl n q:Int),dJ a b⟩]) _=_
  rw[gE,if_pos rfl]
theorem tG {ls bl bl':List B8} (H:Hd n h ls bl a0 b0) (hq:q=1-h) (hb:bl'.length=n) (ha0:0≤a) (ha1:a≤2147483647) (hb0:0≤b) (hb1:b≤2147483647) :
 Hd n q (aD (aD ls (fa n q bl' a b)) [iH q]) bl' a b:=by
 have hl:(aD ls (fa n q bl' a b)).length=sz n:=by rw[cP,H.len]
 have h1:∀ p∈[iH q],0≤p.at_∧p.at_<((aD ls (fa n q bl' a b)).length:Int):=fun p hp=>by
  rw[List.mem_singleton] at hp;subst hp;rw[hl];show(0:Int)≤0∧(0:Int)<_
  unfold sz;omega
 refine AV H hq hb (by rw[cP,hl]) ?_ ?_ ha0 ha1 hb0 hb1
 ·rw[gp _ _ h1]
  show(dB _ ([]++[iH q]) _).z0=_
  rw[gE,if_pos (show(iH q).at_=((0:Nat):Int) from rfl)];rfl
 ·intro k hk
  refine tE h1 k (fun p hp=>?_);rw[List.mem_singleton] at hp;subst hp;show(0:Int)≠_
  omega
end Mx
end
end Go.Proofs.YtbicgjafjjihdaaGreat
