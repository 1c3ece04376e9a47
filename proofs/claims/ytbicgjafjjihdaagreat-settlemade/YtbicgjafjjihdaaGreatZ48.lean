/- Part. -/
import Derived.Test.YtbicgjafjjihdaaGreatZ47
set_option maxHeartbeats 16000000
set_option maxRecDepth 100000
namespace Go.Proofs.YtbicgjafjjihdaaGreat
open Go.RowKit
section
variable {w v:World} {n m c hb hv q k K:Nat} {a:Option Addr} {u2 u3 u4 u8 u10 u11 u12 u13 u14 u15 u16 u17 u18 u19 u20 u21 u22 u23 u24 u25 u26 u27 u28 u29 u30 u31 u32 u33 u34 u35 u36 u37 u38 u39 u40 u41 u42 u43 u44 u45 u46 u47 u48 u49 u50 u51 u52 u53 u54 u55 u56 u57 u58 u59 u60 u61 u62 u63 u64 u65 u66 u67 u68 u69 u70 u71 u72 u73 u74 u75 u76 u77 u78 u79 u80 u81 u82 u83 u84 u85 u86 u87 u88 u89 u90 u91 u92 u93 u94 u95 u96 u97 u98 u99 u100 u101 u102 u103 u104 u105 u106 u107 u108 u109 u110 u111 u112 u113:Value}
theorem tb (a1 a2:Option Addr) (n1 c1 n2 c2:Nat) (l:List B8) (w:World) (h1:BL w a1 n1 l) (h2:BL w a2 n2 l) :
 Calls Tryz.prog 11 #[.slice a1 n1 c1,.slice a2 n2 c2] w fun e w'=>e=.returned (.bool true)∧∃ n,w'=w.drewN n:=by
 refine(xo a1 a2 n1 c1 n2 c2 l l w h1 h2).mono ?_;rintro e w' ⟨r,rfl,hr,hw⟩;exact⟨by rw[hr.2 rfl],hw⟩
theorem bdn (n:Nat):Below w.heap.size w (w.drewN n):=⟨rfl,rfl,rfl,FG _,fun _ _=>rfl⟩
structure Sf (w v:World) (n:Nat) (ds:List De) (hb hv q K:Nat) (bl:List B8):Prop where
 rb:Bx v hb #[.int .i64 0,.int .u8 0,.int .u8 0,.int .u8 0,.int .u8 0,.int .u8 0,.int .u8 0,.int .u8 0,.int .u8 0,.int .i64 (hv:Int),.int .i64 (hv:Int),.int .i64 (hv:Int),.slice (some ⟨q,0,none⟩) n n] 28
 qb:BL v (some ⟨q,0,none⟩) n bl
 cl:∃ base,ClW base v K n (Mx.aI n ds).1 (Mx.aI n ds).2
 len:(Mx.aI n ds).1.length=hv+1
 at_:(Mx.aI n ds).1[hv]?=some bl
 d:Below w.heap.size w v
theorem ss8 {ds:List De} {bl:List B8} (HF:Hid (Sf w v n ds hb hv q K bl)) (hv6:hv≤900):aA Tryz.f3 (fun e w'=>e=.returned (.bool true)∧Below w.heap.size w w') 8 ⟨#[.int .i64 (n:Int),.slice a m c,u2,u3,u4,.pointer (some ⟨hb,0,none⟩),.int .i64 (k:Int),.nilIface,u8,.pointer (some ⟨K,0,none⟩),u10,u11,u12,u13,u14,u15,u16,u17,u18,u19,u20,u21,u22,u23,u24,u25,u26,u27,u28,u29,u30,u31,u32,u33,u34,u35,u36,u37,u38,u39,u40,u41,u42,u43,u44,u45,u46,u47,u48,u49,u50,u51,u52,u53,u54,u55,u56,u57,u58,u59,u60,u61,u62,u63,u64,u65,u66,u67,u68,u69,u70,u71,u72,u73,u74,u75,u76,u77,u78,u79,u80,u81,u82,u83,u84,u85,u86,u87,u88,u89,u90,u91,u92,u93,u94,u95,u96,u97,u98,u99,u100,u101,u102,u103,u104,u105,u106,u107,u108,u109,u110,u111,u112,u113],[]⟩ v:=by
 refine aM (c:=.seq _ .ret) rfl ?_;have r9:=HF.o.rb.cell 9;have r10:=HF.o.rb.cell 10;have r11:=HF.o.rb.cell 11;have r12:=HF.o.rb.cell 12;simp only[Fx,Fw,Fv] at r9 r10 r11 r12;obtain⟨base,hcl⟩:=HF.o.cl;have HCL:=aa hcl;obtain⟨g,cc,vv,X⟩:=hcl;obtain⟨ga,gcap,la,lc,hvv,hgl,hcell,hbl,hlc⟩:=X.sn.at_ HF.o.at_;obtain⟨x0,x1⟩:=Bx.two X.bx;rw[hvv] at x1;have HBL:=aa hbl;obtain⟨L,hL⟩:∃ L:Nat,Hid (L=(Mx.aI n ds).1.length):=⟨_,rfl⟩
 rw[←hL.o] at x1;have hvL:(hv:Int)<(L:Int):=by rw[hL.o,HF.o.len];omega
 have hvLn:hv<L:=by omega
 clear X hvv hbl x0;go_wp2_with fail;go_quiet (first
  |(go_at_call 10;refine Calls.quiet_of_same (v:=.int .i64 (hv:Int)) ?_;exact ir base K n _ _ _ (HCL.o.later (bdn _)) hv HF.o.len (by omega))
  |(go_at_call 11;refine Calls.quiet_of (v:=.bool true) ?_;exact tb (some ⟨q,0,none⟩) la n n n lc bl _ (HF.o.qb.later (bdn _)) (HBL.o.later (bdn _))))
 go_wp2_with fail;exact bodyPost_ret (v:=.bool true) (by simp[results,Tryz.results3,go_sem]) rfl ⟨rfl,HF.o.d.trans ((bdn _).mono HF.o.d.size)⟩
theorem ss7 {ds:List De} {bl:List B8} (HF:Hid (Sf w v n ds hb hv q K bl)) (hv6:hv≤900) (hk3:k≤3):aA Tryz.f3 (fun e w'=>e=.returned (.bool true)∧Below w.heap.size w w') 7 ⟨#[.int .i64 (n:Int),.slice a m c,u2,u3,u4,.pointer (some ⟨hb,0,none⟩),.int .i64 (k:Int),.nilIface,u8,.pointer (some ⟨K,0,none⟩),u10,u11,u12,u13,u14,u15,u16,u17,u18,u19,u20,u21,u22,u23,u24,u25,u26,u27,u28,u29,u30,u31,u32,u33,u34,u35,u36,u37,u38,u39,u40,u41,u42,u43,u44,u45,u46,u47,u48,u49,u50,u51,u52,u53,u54,u55,u56,u57,u58,u59,u60,u61,u62,u63,u64,u65,u66,u67,u68,u69,u70,u71,u72,u73,u74,u75,u76,u77,u78,u79,u80,u81,u82,u83,u84,u85,u86,u87,u88,u89,u90,u91,u92,u93,u94,u95,u96,u97,u98,u99,u100,u101,u102,u103,u104,u105,u106,u107,u108,u109,u110,u111,u112,u113],[]⟩ v:=by
 refine aj rfl ?_;intro K9 hK9;have r0:=HF.o.rb.cell 0;have r1:=HF.o.rb.cell 1;have r2:=HF.o.rb.cell 2;have r3:=HF.o.rb.cell 3;have r4:=HF.o.rb.cell 4;have r5:=HF.o.rb.cell 5;have r6:=HF.o.rb.cell 6;have r7:=HF.o.rb.cell 7;have r8:=HF.o.rb.cell 8;simp only[Fx,Fw,Fv] at r0 r1 r2 r3 r4 r5 r6 r7 r8;have qz:=fun W=>rN zB W
 simp only[zB] at qz;have hk0:¬(k:Int)<0:=by omega
 have hk1:¬(3:Int)<(k:Int):=by omega
 go_wp2_with fail;exact Met.intro (ss8 HF hv6)
def StC (w1 v:World) (n K k:Nat) (ds:List De):Prop:=ClW w1.heap.size v K n (Mx.aI n (ds.take k)).1 (Mx.aI n (ds.take k)).2∧Below w1.heap.size w1 v∧(Mx.aI n (ds.take k)).1.length≤k+1∧1≤(Mx.aI n (ds.take k)).1.length
theorem td {ds:List De} {x:De} (hx:ds[k]?=some x) (h:(Mx.aI n (ds.take k)).1.length≤k+1∧1≤(Mx.aI n (ds.take k)).1.length):(Mx.aI n (ds.take (k+1))).1.length≤k+1+1∧1≤(Mx.aI n (ds.take (k+1))).1.length:=by
 have e1:ds.take (k+1)=ds.take k++[x]:=by rw[List.take_add_one,hx];rfl
 rw[e1,Mx.gH];unfold Mx.tc Mx.doS;simp only;split
 ·rw[Fy]
  simp;omega
 ·omega
theorem ss6 {w1:World} {ds:List De} {bl:List B8} (h1:1≤n) (h2:n≤32) (h3:m≤300) (HD:Hid (DL w1 a m ds)) (RB:Hid (Bx w1 hb #[.int .i64 0,.int .u8 0,.int .u8 0,.int .u8 0,.int .u8 0,.int .u8 0,.int .u8 0,.int .u8 0,.int .u8 0,.int .i64 (hv:Int),.int .i64 (hv:Int),.int .i64 (hv:Int),.slice (some ⟨q,0,none⟩) n n] 28)) (QB:Hid (BL w1 (some ⟨q,0,none⟩) n bl)) (HL:Hid ((Mx.aI n ds).1.length=hv+1∧(Mx.aI n ds).1[hv]?=some bl)) (DW:Hid (Below w.heap.size w w1)) (hk3:k≤3) (HC:Hid (StC w1 v n K 0 ds)):aA Tryz.f3 (fun e w'=>e=.returned (.bool true)∧Below w.heap.size w w') 6 ⟨#[.int .i64 (n:Int),.slice a m c,u2,u3,u4,.pointer (some ⟨hb,0,none⟩),.int .i64 (k:Int),.nilIface,u8,.pointer (some ⟨K,0,none⟩),u10,u11,u12,u13,u14,u15,u16,u17,u18,u19,u20,u21,u22,u23,u24,u25,u26,u27,u28,u29,u30,u31,u32,u33,u34,u35,u36,u37,u38,u39,u40,u41,u42,u43,u44,u45,u46,u47,u48,u49,u50,u51,u52,u53,u54,u55,u56,u57,u58,u59,u60,u61,u62,u63,u64,u65,u66,u67,u68,u69,u70,u71,u72,u73,u74,u75,u76,u77,u78,u79,u80,u81,u82,u83,u84,u85,u86,u87,u88,u89,u90,u91,u92,u93,u94,u95,u96,u97,u98,u99,u100,u101,u102,u103,u104,u105,u106,u107,u108,u109,u110,u111,u112,u113],[]⟩ v:=by
 refine aj rfl ?_;intro K9 hK9;go_upto_region 11 with fail
 go_loopw [10] (fun t wr=>∃ j:Nat,j≤m∧t=.int .i64 (j:Int)∧Hid (StC w1 wr n K j ds)) (fun t _=>m-(intOf t).toNat)
 case atStart=>exact⟨0,Nat.zero_le _,rfl,HC⟩
 case round =>
  obtain⟨j,hj,rfl,hR⟩:=hrel;by_cases hlt:j<m
  ·have hlti:(j:Int)<(m:Int):=by omega
   obtain⟨b,off,x,ha,hx,hok,hbl,x0,x1,x2,x3,x4,x5,x6,x7,x8,x9,x10⟩:=(HD.o.later hR.o.2.1 HD.o.av).at_ j hlt;subst ha;have HXK:=aa hx;clear hx hok;obtain⟨kd,at_,fr,d⟩:=x;simp only at x0 x1 x2 x3 x4 x5 x6 x7 x8 x9 x10;obtain⟨hw,hhw⟩:∃ hw:Nat,Hid ((Mx.aI n (ds.take j)).1.length=hw+1):=⟨(Mx.aI n (ds.take j)).1.length-1,by have:=hR.o.2.2;show _=_;omega⟩
   go_wp2_with fail;refine(rG w1.heap.size K n _ _ wr hR.o.1 h1 h2 hw hhw.o (by have h9:=hR.o.2.2;have h8:=hhw.o;omega) kd at_ fr d _ rfl).mono ?_;rintro e w3 ⟨rfl,K3,D3⟩;have L3:=aa (show StC w1 w3 n K (j+1) ds by
    have e1:ds.take (j+1)=ds.take j++[⟨kd,at_,fr,d⟩]:=by rw[List.take_add_one,HXK.o];rfl
    refine⟨?_,hR.o.2.1.trans D3.o,td HXK.o hR.o.2.2⟩;rw[e1,Mx.gH];exact K3.o)
   clear x0 x1 x2 x3 x4 x5 x6 x7 x8 x9 x10 K3 D3;go_wp2_with fail;go_roundw
   case rel=>exact⟨j+1,by omega,by go_num,L3⟩
   case measure=>simp[intOf];omega
  ·have hkq:j=m:=by omega
   subst hkq;have HT:=aa (show ds.take j=ds from FH (by have:=HD.o.1;omega));have hlen9:=hR.o.2.2.1;rw[HT.o,HL.o.1] at hlen9;have FF:=aa (show Sf w wr n ds hb hv q K bl from⟨Bx.later RB.o hR.o.2.1 RB.o.lt,QB.o.later hR.o.2.1,⟨w1.heap.size,by have h9:=hR.o.1;rw[HT.o] at h9;exact h9⟩,HL.o.1,HL.o.2,DW.o.trans (hR.o.2.1.mono DW.o.size)⟩);have hv6:hv≤900:=by omega
   clear hlen9;go_wp2_with fail;exact Met.intro (ss7 FF hv6 hk3)
end
end Go.Proofs.YtbicgjafjjihdaaGreat
