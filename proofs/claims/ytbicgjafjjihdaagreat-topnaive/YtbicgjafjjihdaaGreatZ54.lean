/- Part. -/
import Derived.Test.YtbicgjafjjihdaaGreatZ48
import Derived.Test.YtbicgjafjjihdaaGreatZ50
set_option maxHeartbeats 16000000
set_option maxRecDepth 100000
namespace Go.Proofs.YtbicgjafjjihdaaGreat
open Go.RowKit
section
variable {w v w1:World} {n m c hb hv q k K:Nat} {a:Option Addr} {u0 u2 u3 u4 u5 u6 u7 u8 u14 u15 u16 u17 u18 u19 u20 u21 u22 u23 u24 u25 u26 u27 u28 u29 u30 u31 u32 u33 u34 u35 u36 u37 u38 u39 u40 u41 u42 u43 u44 u45 u46 u47 u48 u49 u50 u51 u52 u53 u54 u55 u56 u57 u58 u59 u60 u61 u62 u63 u64 u65 u66 u67 u68 u69 u70 u71 u72:Value}
theorem tn8 {ds:List De} {bl:List B8} (HF:Hid (Sf w v n ds hb hv q K bl)) (hv6:hv≤900) :
 aA Tryz.f5 (fun e w'=>e=.returned (.bool true)∧Below w.heap.size w w') 8 ⟨#[u0,.int .i64 (n:Int),u2,u3,u4,u5,u6,u7,u8,.slice a m c,.pointer (some ⟨hb,0,none⟩),.int .i64 (k:Int),.nilIface,.pointer (some ⟨K,0,none⟩),u14,u15,u16,u17,u18,u19,u20,u21,u22,u23,u24,u25,u26,u27,u28,u29,u30,u31,u32,u33,u34,u35,u36,u37,u38,u39,u40,u41,u42,u43,u44,u45,u46,u47,u48,u49,u50,u51,u52,u53,u54,u55,u56,u57,u58,u59,u60,u61,u62,u63,u64,u65,u66,u67,u68,u69,u70,u71,u72],[]⟩ v:=by
 refine aM (c:=.seq _ .ret) rfl ?_;have r12:=HF.o.rb.cell 12;simp only[Fx,Fw,Fv] at r12;obtain⟨base,hcl⟩:=HF.o.cl;have HCL:=aa hcl;obtain⟨g,cc,vv,X⟩:=hcl;obtain⟨ga,gcap,la,lc,hvv,hgl,hcell,hbl,hlc⟩:=X.sn.at_ HF.o.at_;obtain⟨x0,x1⟩:=Bx.two X.bx;rw[hvv] at x1;have HBL:=aa hbl;obtain⟨L,hL⟩:∃ L:Nat,Hid (L=(Mx.aI n ds).1.length):=⟨_,rfl⟩
 rw[←hL.o] at x1;have hvL:(hv:Int)<(L:Int):=by rw[hL.o,HF.o.len];omega
 have hvLn:hv<L:=by omega
 clear X hvv hbl x0;go_wp2_with fail;go_quiet (first
  |(go_at_call 10;refine Calls.quiet_of_same (v:=.int .i64 (hv:Int)) ?_;exact ir base K n _ _ _ (HCL.o.later (bdn _)) hv HF.o.len (by omega))
  |(go_at_call 11;refine Calls.quiet_of (v:=.bool true) ?_;exact tb (some ⟨q,0,none⟩) la n n n lc bl _ (HF.o.qb.later (bdn _)) (HBL.o.later (bdn _))))
 go_wp2_with fail;exact bodyPost_ret (v:=.bool true) (by simp[results,Tryz.results5,go_sem]) rfl ⟨rfl,HF.o.d.trans ((bdn _).mono HF.o.d.size)⟩
theorem Sf.drew {ds:List De} {bl:List B8} (h:Sf w v n ds hb hv q K bl) (j:Nat):Sf w (v.drewN j) n ds hb hv q K bl:=by
 obtain⟨b,hc⟩:=h.cl;exact⟨h.rb.later (bdn j) h.rb.lt,h.qb.later (bdn j),⟨b,hc.later (bdn j)⟩,h.len,h.at_,h.d.trans ((bdn j).mono h.d.size)⟩
theorem tn7 {ds:List De} {bl:List B8} (HF:Hid (Sf w v n ds hb hv q K bl)) (hv6:hv≤900) (hk3:k≤3) :
 aA Tryz.f5 (fun e w'=>e=.returned (.bool true)∧Below w.heap.size w w') 7 ⟨#[u0,.int .i64 (n:Int),u2,u3,u4,u5,u6,u7,u8,.slice a m c,.pointer (some ⟨hb,0,none⟩),.int .i64 (k:Int),.nilIface,.pointer (some ⟨K,0,none⟩),u14,u15,u16,u17,u18,u19,u20,u21,u22,u23,u24,u25,u26,u27,u28,u29,u30,u31,u32,u33,u34,u35,u36,u37,u38,u39,u40,u41,u42,u43,u44,u45,u46,u47,u48,u49,u50,u51,u52,u53,u54,u55,u56,u57,u58,u59,u60,u61,u62,u63,u64,u65,u66,u67,u68,u69,u70,u71,u72],[]⟩ v:=by
 refine aj rfl ?_;intro K9 hK9;have r11:=HF.o.rb.cell 11;simp only[Fx,Fw,Fv] at r11;obtain⟨base,hcl⟩:=HF.o.cl;have HCL:=aa hcl;clear hcl;have hk1:¬(3:Int)<(k:Int):=by omega
 go_wp2_with fail;go_quiet ((go_at_call 10;refine Calls.quiet_of_same (v:=.int .i64 (hv:Int)) ?_;exact ir base K n _ _ _ (HCL.o.later (bdn _)) hv HF.o.len (by omega)))
 go_wp2_with fail;exact Met.intro (tn8 (aa (HF.o.drew _)) hv6)
theorem tn6 {ds:List De} {bl:List B8} (h1:1≤n) (h2:n≤32) (h3:m≤300) (HD:Hid (DL w1 a m ds)) (RB:Hid (Bx w1 hb #[.int .i64 0,.int .u8 0,.int .u8 0,.int .u8 0,.int .u8 0,.int .u8 0,.int .u8 0,.int .u8 0,.int .u8 0,.int .i64 (hv:Int),.int .i64 (hv:Int),.int .i64 (hv:Int),.slice (some ⟨q,0,none⟩) n n] 28)) (QB:Hid (BL w1 (some ⟨q,0,none⟩) n bl)) (HL:Hid ((Mx.aI n ds).1.length=hv+1∧(Mx.aI n ds).1[hv]?=some bl)) (DW:Hid (Below w.heap.size w w1)) (hk3:k≤3) (HC:Hid (StC w1 v n K 0 ds)) :
 aA Tryz.f5 (fun e w'=>e=.returned (.bool true)∧Below w.heap.size w w') 6 ⟨#[u0,.int .i64 (n:Int),u2,u3,u4,u5,u6,u7,u8,.slice a m c,.pointer (some ⟨hb,0,none⟩),.int .i64 (k:Int),.nilIface,.pointer (some ⟨K,0,none⟩),u14,u15,u16,u17,u18,u19,u20,u21,u22,u23,u24,u25,u26,u27,u28,u29,u30,u31,u32,u33,u34,u35,u36,u37,u38,u39,u40,u41,u42,u43,u44,u45,u46,u47,u48,u49,u50,u51,u52,u53,u54,u55,u56,u57,u58,u59,u60,u61,u62,u63,u64,u65,u66,u67,u68,u69,u70,u71,u72],[]⟩ v:=by
 refine aj rfl ?_;intro K9 hK9;go_upto_region 8 with fail
 go_loopw [14] (fun t wr=>∃ j:Nat,j≤m∧t=.int .i64 (j:Int)∧Hid (StC w1 wr n K j ds)) (fun t _=>m-(intOf t).toNat)
 case atStart=>exact⟨0,Nat.zero_le _,rfl,HC⟩
 case round =>
  obtain⟨j,hj,rfl,hR⟩:=hrel;by_cases hlt:j<m
  ·have hlti:(j:Int)<(m:Int):=by omega
   obtain⟨b,off,x,ha,hx,hok,hbl,x0,x1,x2,x3,x4,x5,x6,x7,x8,x9,x10⟩:=(HD.o.later hR.o.2.1 HD.o.av).at_ j hlt;subst ha;have HXK:=aa hx;clear hx hok;obtain⟨kd,at_,fr,d⟩:=x;simp only at x0 x1 x2 x3 x4 x5 x6 x7 x8 x9 x10;obtain⟨hw,hhw⟩:∃ hw:Nat,Hid ((Mx.aI n (ds.take j)).1.length=hw+1):=⟨(Mx.aI n (ds.take j)).1.length-1,by have:=hR.o.2.2;show _=_;omega⟩
   go_wp2_with fail;refine(rG w1.heap.size K n _ _ wr hR.o.1 h1 h2 hw hhw.o (by have h9:=hR.o.2.2;have h8:=hhw.o;omega) kd at_ fr d _ rfl).mono ?_;rintro e w3 ⟨rfl,K3,D3⟩;have L3:=aa (show StC w1 w3 n K (j+1) ds by
    have e1:ds.take (j+1)=ds.take j++[⟨kd,at_,fr,d⟩]:=by rw[List.take_add_one,HXK.o];rfl
    refine⟨?_,hR.o.2.1.trans D3.o,td HXK.o hR.o.2.2⟩;rw[e1,Mx.gH];exact K3.o)
   clear x0 x1 x2 x3 x4 x5 x6 x7 x8 x9 x10 K3 D3;go_wp2_with fail;go_roundw
   case rel=>exact⟨j+1,by omega,by go_num,L3⟩
   case measure=>simp[intOf];omega
  ·have hkq:j=m:=by omega
   subst hkq;have HT:=aa (show ds.take j=ds from FH (by have:=HD.o.1;omega));have hlen9:=hR.o.2.2.1;rw[HT.o,HL.o.1] at hlen9;have FF:=aa (show Sf w wr n ds hb hv q K bl from⟨Bx.later RB.o hR.o.2.1 RB.o.lt,QB.o.later hR.o.2.1,⟨w1.heap.size,by have h9:=hR.o.1;rw[HT.o] at h9;exact h9⟩,HL.o.1,HL.o.2,DW.o.trans (hR.o.2.1.mono DW.o.size)⟩);have hv6:hv≤900:=by omega
   clear hlen9;go_wp2_with fail;exact Met.intro (tn7 FF hv6 hk3)
theorem tn5 {ds:List De} {bl:List B8} (h1:1≤n) (h2:n≤32) (h3:m≤300) (HD:Hid (DL w1 a m ds)) (RB:Hid (Bx w1 hb #[.int .i64 0,.int .u8 0,.int .u8 0,.int .u8 0,.int .u8 0,.int .u8 0,.int .u8 0,.int .u8 0,.int .u8 0,.int .i64 (hv:Int),.int .i64 (hv:Int),.int .i64 (hv:Int),.slice (some ⟨q,0,none⟩) n n] 28)) (QB:Hid (BL w1 (some ⟨q,0,none⟩) n bl)) (HL:Hid ((Mx.aI n ds).1.length=hv+1∧(Mx.aI n ds).1[hv]?=some bl)) (DW:Hid (Below w.heap.size w w1)) (hk3:k≤3) {u13:Value} :
 aA Tryz.f5 (fun e w'=>e=.returned (.bool true)∧Below w.heap.size w w') 5 ⟨#[u0,.int .i64 (n:Int),u2,u3,u4,u5,u6,u7,u8,.slice a m c,.pointer (some ⟨hb,0,none⟩),.int .i64 (k:Int),.nilIface,u13,u14,u15,u16,u17,u18,u19,u20,u21,u22,u23,u24,u25,u26,u27,u28,u29,u30,u31,u32,u33,u34,u35,u36,u37,u38,u39,u40,u41,u42,u43,u44,u45,u46,u47,u48,u49,u50,u51,u52,u53,u54,u55,u56,u57,u58,u59,u60,u61,u62,u63,u64,u65,u66,u67,u68,u69,u70,u71,u72],[]⟩ w1:=by
 refine aj rfl ?_;intro K9 hK9;go_wp2_with fail;refine(lJ n w1 h1 h2).mono ?_;rintro e w2 ⟨K,rfl,K2,D2⟩;have C2:=aa (show StC w1 w2 n K 0 ds from⟨K2.o,D2.o,by simp[Mx.aI],by simp[Mx.aI]⟩);go_wp2_with fail;exact Met.intro (tn6 h1 h2 h3 HD RB QB HL DW hk3 C2)
theorem xy (a:Option Addr) (n c:Nat) (l:List Int) (x1 x2 x3:Int) (w:World) (hl:ay w a n l) (hb:I64 l) (h1:mC x1) (h2:mC x2) (h3:mC x3) :
 Calls Tryz.prog 5 #[.slice a n c,.int .i64 x1,.int .i64 x2,.int .i64 x3] w (fun e w'=>e=.returned (.bool true)∧Below w.heap.size w w'):=by
 by_cases h:128<n
 ·have h9:(128:Int)<n:=by omega
  go_enter Tryz.func5,Tryz.ntmps5;go_wp2
  go_ret;exact⟨rfl,Below.refl _ _⟩
 obtain⟨N,hN1,hN2,hN⟩:∃ N:Nat,1≤N∧N≤32∧Hid (1+Mx.pick x1 32=(N:Int)):=⟨(1+Mx.pick x1 32).toNat,by have:=Mx.cI x1 32 (by omega);omega,by have:=Mx.cI x1 32 (by omega);omega,by unfold Hid;have:=Mx.cI x1 32 (by omega);omega⟩
 obtain⟨A,hA1,hA⟩:∃ A:Nat,A≤1000∧Hid (Mx.pick x2 1000=(A:Int)):=⟨(Mx.pick x2 1000).toNat,by have:=Mx.cI x2 1000 (by omega);omega,by unfold Hid;have:=Mx.cI x2 1000 (by omega);omega⟩
 obtain⟨M,hM1,hM⟩:∃ M:Nat,M≤300∧Hid (Mx.pick x3 150=(M:Int)):=⟨(Mx.pick x3 150).toNat,by have:=Mx.cI x3 150 (by omega);omega,by unfold Hid;have:=Mx.cI x3 150 (by omega);omega⟩
 have H1:=aa h1;have H2:=aa h2;have H3:=aa h3;have hnb:¬(128:Int)<n:=by omega
 clear h1 h2 h3;have HLI:=aa (And.intro hl hb);clear hl hb;go_enter Tryz.func5,Tryz.ntmps5;change aA Tryz.f5 (fun e w'=>e=.returned (.bool true)∧Below w.heap.size w w') 0 _ w;refine aj rfl ?_;intro K0 hK0;go_wp2_with fail;refine Met.intro (aj rfl ?_);intro K1 hK1;go_wp2_with fail;refine Met.intro (aj rfl ?_);intro K2 hK2;go_wp2_with fail;refine(fo x1 32 w H1.o.1 H1.o.2 (by omega) (by omega)).mono ?_;rintro e w1 ⟨rfl,rfl⟩;obtain⟨Q,hQ⟩:∃ Q:Int,Hid (Q=Mx.pick x1 32):=⟨_,rfl⟩
 rw[←hQ.o] at hN ⊢;have hQN:1+Q=(N:Int):=hN.o;go_wp2_with fail;refine Met.intro (aj rfl ?_);intro K3 hK3;go_wp2_with fail;refine(fo x2 1000 w1 H2.o.1 H2.o.2 (by omega) (by omega)).mono ?_;rintro e w2 ⟨rfl,rfl⟩;rw[hA.o];go_wp2_with fail;refine(fo x3 150 w2 H3.o.1 H3.o.2 (by omega) (by omega)).mono ?_;rintro e w3 ⟨rfl,rfl⟩;rw[hM.o];go_wp2_with fail;refine(j4 a n c l A M N w3 HLI.o.1 HLI.o.2 (by omega) (by omega) (by omega) hN1 (by omega)).mono ?_;rintro e w4 ⟨a4,c4,ds,rfl,D4,_,B4⟩;clear hQN;go_wp2_with fail;refine Met.intro (aj rfl ?_);intro K4 hK4;go_wp2_with fail;refine(qt N a4 M c4 ds w4 hN1 hN2 hM1 D4.o).mono ?_;rintro e w5 ⟨rv,k,rfl,S1⟩;obtain⟨hv,q,bl,hrv,hk3,hlen,hat,hown,_,_,hb1⟩:=S1.o;subst hrv;obtain⟨W2,hW2⟩:∃ W2:World,Hid (W2=w5.alloc (.cells #[.int .i64 0,.int .u8 0,.int .u8 0,.int .u8 0,.int .u8 0,.int .u8 0,.int .u8 0,.int .u8 0,.int .u8 0,.int .i64 (hv:Int),.int .i64 (hv:Int),.int .i64 (hv:Int),.slice (some ⟨q,0,none⟩) N N] 28)):=⟨_,rfl⟩
 obtain⟨hb,hhb⟩:∃ hb:Nat,Hid (hb=w5.heap.size):=⟨_,rfl⟩
 have D2:=beA hW2;have R2:=aa (show Bx W2 hb #[.int .i64 0,.int .u8 0,.int .u8 0,.int .u8 0,.int .u8 0,.int .u8 0,.int .u8 0,.int .u8 0,.int .u8 0,.int .i64 (hv:Int),.int .i64 (hv:Int),.int .i64 (hv:Int),.slice (some ⟨q,0,none⟩) N N] 28 by rw[hW2.o,hhb.o];exact Bx.new w5 _ _);have Q2:=aa (show BL W2 (some ⟨q,0,none⟩) N bl from by
  obtain⟨a9,c9,hv9,_,hr9,_⟩:=aB hown;injection hv9 with e1 e2 _
  subst e1;rw[←e2] at hr9;exact⟨e2.symm,hr9.later D2.o⟩)
 have F2:=aa (show Below w4.heap.size w4 W2 from hb1.trans (D2.o.mono hb1.size));have HD2:=aa (D4.o.later F2.o D4.o.av);have HL:=aa (And.intro hlen hat);clear hlen hat hown hb1 S1;go_wp2_with fail;rw[←hW2.o,←hhb.o];exact Met.intro (tn5 hN1 hN2 hM1 HD2 R2 Q2 HL (aa (B4.o.trans (F2.o.mono B4.o.size))) hk3)
end
end Go.Proofs.YtbicgjafjjihdaaGreat
