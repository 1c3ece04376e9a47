/- Part. -/
import Derived.Test.YtbicgjafjjihdaaGreatZ48
set_option maxHeartbeats 16000000
set_option maxRecDepth 100000
namespace Go.Proofs.YtbicgjafjjihdaaGreat
open Go.RowKit
theorem ss5 {w w1:World} {n m c:Nat} {a:Option Addr} {ds:List De} {hb hv q k:Nat} {bl:List B8} (h1:1≤n) (h2:n≤32) (h3:m≤300) (HD:Hid (DL w1 a m ds)) (RB:Hid (Bx w1 hb #[.int .i64 0,.int .u8 0,.int .u8 0,.int .u8 0,.int .u8 0,.int .u8 0,.int .u8 0,.int .u8 0,.int .u8 0,.int .i64 (hv:Int),.int .i64 (hv:Int),.int .i64 (hv:Int),.slice (some ⟨q,0,none⟩) n n] 28)) (QB:Hid (BL w1 (some ⟨q,0,none⟩) n bl)) (HL:Hid ((Mx.aI n ds).1.length=hv+1∧(Mx.aI n ds).1[hv]?=some bl)) (DW:Hid (Below w.heap.size w w1)) (hk3:k≤3) {u2 u3 u4 u8 u9 u10 u11 u12 u13 u14 u15 u16 u17 u18 u19 u20 u21 u22 u23 u24 u25 u26 u27 u28 u29 u30 u31 u32 u33 u34 u35 u36 u37 u38 u39 u40 u41 u42 u43 u44 u45 u46 u47 u48 u49 u50 u51 u52 u53 u54 u55 u56 u57 u58 u59 u60 u61 u62 u63 u64 u65 u66 u67 u68 u69 u70 u71 u72 u73 u74 u75 u76 u77 u78 u79 u80 u81 u82 u83 u84 u85 u86 u87 u88 u89 u90 u91 u92 u93 u94 u95 u96 u97 u98 u99 u100 u101 u102 u103 u104 u105 u106 u107 u108 u109 u110 u111 u112 u113:Value}:aA Tryz.f3 (fun e w'=>e=.returned (.bool true)∧Below w.heap.size w w') 5 ⟨#[.int .i64 (n:Int),.slice a m c,u2,u3,u4,.pointer (some ⟨hb,0,none⟩),.int .i64 (k:Int),.nilIface,u8,u9,u10,u11,u12,u13,u14,u15,u16,u17,u18,u19,u20,u21,u22,u23,u24,u25,u26,u27,u28,u29,u30,u31,u32,u33,u34,u35,u36,u37,u38,u39,u40,u41,u42,u43,u44,u45,u46,u47,u48,u49,u50,u51,u52,u53,u54,u55,u56,u57,u58,u59,u60,u61,u62,u63,u64,u65,u66,u67,u68,u69,u70,u71,u72,u73,u74,u75,u76,u77,u78,u79,u80,u81,u82,u83,u84,u85,u86,u87,u88,u89,u90,u91,u92,u93,u94,u95,u96,u97,u98,u99,u100,u101,u102,u103,u104,u105,u106,u107,u108,u109,u110,u111,u112,u113],[]⟩ w1:=by
 refine aj rfl ?_;intro K9 hK9;go_wp2_with fail;refine(lJ n w1 h1 h2).mono ?_;rintro e w2 ⟨K,rfl,K2,D2⟩;have C2:=aa (show StC w1 w2 n K 0 ds from⟨K2.o,D2.o,by simp[Mx.aI],by simp[Mx.aI]⟩);go_wp2_with fail;exact Met.intro (ss6 h1 h2 h3 HD RB QB HL DW hk3 C2)
theorem qT (n:Nat) (a:Option Addr) (m c:Nat) (ds:List De) (w:World) (h1:1≤n) (h2:n≤32) (h3:m≤300) (hd:DL w a m ds) :
 Calls Tryz.prog 3 #[.int .i64 (n:Int),.slice a m c] w (fun e w'=>e=.returned (.bool true)∧Below w.heap.size w w'):=by
 have HD:=aa hd;have hn1:¬(n:Int)<1:=by omega
 have hn2:¬(32:Int)<(n:Int):=by omega
 have hm3:¬(300:Int)<(m:Int):=by omega
 clear hd;go_enter Tryz.func3,Tryz.ntmps3;change aA Tryz.f3 (fun e w'=>e=.returned (.bool true)∧Below w.heap.size w w') 0 _ w;refine aj rfl ?_;intro K0 hK0;go_wp2_with fail;refine Met.intro (aj rfl ?_);intro K1 hK1;go_wp2_with fail;refine(qt n a m c ds w h1 h2 h3 HD.o).mono ?_;rintro e w1 ⟨rv,k,rfl,S1⟩;obtain⟨hv,q,bl,hrv,hk3,hlen,hat,hown,_,_,hb1⟩:=S1.o;subst hrv;obtain⟨W2,hW2⟩:∃ W2:World,Hid (W2=w1.alloc (.cells #[.int .i64 0,.int .u8 0,.int .u8 0,.int .u8 0,.int .u8 0,.int .u8 0,.int .u8 0,.int .u8 0,.int .u8 0,.int .i64 (hv:Int),.int .i64 (hv:Int),.int .i64 (hv:Int),.slice (some ⟨q,0,none⟩) n n] 28)):=⟨_,rfl⟩
 obtain⟨hb,hhb⟩:∃ hb:Nat,Hid (hb=w1.heap.size):=⟨_,rfl⟩
 have D2:=beA hW2;have R2:=aa (show Bx W2 hb #[.int .i64 0,.int .u8 0,.int .u8 0,.int .u8 0,.int .u8 0,.int .u8 0,.int .u8 0,.int .u8 0,.int .u8 0,.int .i64 (hv:Int),.int .i64 (hv:Int),.int .i64 (hv:Int),.slice (some ⟨q,0,none⟩) n n] 28 by rw[hW2.o,hhb.o];exact Bx.new w1 _ _);have Q2:=aa (show BL W2 (some ⟨q,0,none⟩) n bl from by
  obtain⟨a9,c9,hv9,_,hr9,_⟩:=aB hown;injection hv9 with e1 e2 _
  subst e1;rw[←e2] at hr9;exact⟨e2.symm,hr9.later D2.o⟩)
 have F2:=aa (show Below w.heap.size w W2 from hb1.trans (D2.o.mono hb1.size));have HD2:=aa (HD.o.later F2.o HD.o.av);have HL:=aa (And.intro hlen hat);clear hlen hat hown hb1 S1;go_wp2_with fail;rw[←hW2.o,←hhb.o];refine Met.intro (aj rfl ?_);intro K2 hK2;go_wp2_with fail;refine Met.intro (aj rfl ?_);intro K3 hK3;go_wp2_with fail;refine Met.intro (aj rfl ?_);intro K4 hK4;go_wp2_with fail;exact Met.intro (ss5 h1 h2 h3 HD2 R2 Q2 HL F2 hk3)
theorem oY (n:Int) (a:Option Addr) (m c:Nat) (w:World) (h:eh n m≠0) :
 Calls Tryz.prog 3 #[.int .i64 n,.slice a m c] w (fun e w'=>e=.returned (.bool true)∧Below w.heap.size w w'):=by
 have HH:=aa h;obtain⟨E,hE⟩:∃ E:Int,Hid (E=eh n m):=⟨_,rfl⟩
 have hEn:¬E=0:=by rw[hE.o];exact h
 have HI:=fun W=>Eu E E W
 rw[bp hEn] at HI;have HIS:=aa HI;have hcase:(E=1∧(n<1∨(¬n<1∧32<n)))∨(E=2∧¬n<1∧¬32<n∧300<m):=by
  have h9:=hE.o;unfold eh at h9;split at h9
  ·left
   exact⟨h9,by omega⟩
  ·split at h9
   ·right
    exact⟨h9,by omega,by omega,by omega⟩
   ·exact absurd h9 hEn
 have HC:=aa hcase;clear h HI hcase;go_enter Tryz.func3,Tryz.ntmps3;change aA Tryz.f3 (fun e w'=>e=.returned (.bool true)∧Below w.heap.size w w') 0 _ w;refine aj rfl ?_;intro K0 hK0;go_wp2_with fail;refine Met.intro (aj rfl ?_);intro K1 hK1;go_wp2_with fail;refine(xq n a m c w HH.o).mono ?_;rintro e w1 ⟨rfl,D1⟩;rw[←hE.o];obtain⟨W2,hW2⟩:∃ W2:World,Hid (W2=w1.alloc (.cells #[.int .i64 0,.int .u8 0,.int .u8 0,.int .u8 0,.int .u8 0,.int .u8 0,.int .u8 0,.int .u8 0,.int .u8 0,.int .i64 0,.int .i64 0,.int .i64 0,.slice none 0 0] 28)):=⟨_,rfl⟩
 obtain⟨hb,hhb⟩:∃ hb:Nat,Hid (hb=w1.heap.size):=⟨_,rfl⟩
 have D2:=aa (show Below w.heap.size w W2 by rw[hW2.o];exact D1.o.alloc D1.o.size _);have R2:=aa (show Bx W2 hb #[.int .i64 0,.int .u8 0,.int .u8 0,.int .u8 0,.int .u8 0,.int .u8 0,.int .u8 0,.int .u8 0,.int .u8 0,.int .i64 0,.int .i64 0,.int .i64 0,.slice none 0 0] 28 by rw[hW2.o,hhb.o];exact Bx.new w1 _ _);go_wp2_with fail;rw[←hW2.o,←hhb.o];have r9:=R2.o.cell 9;have r12:=R2.o.cell 12;simp only[Fx,Fw,Fv] at r9 r12;refine Met.intro (aj rfl ?_);intro K2 hK2;go_wp2_with fail;refine Met.intro (aj rfl ?_);intro K3 hK3;rcases HC.o with ⟨rfl,hc⟩|⟨rfl,hc1,hc2,hc3⟩
 ·rcases hc with hc|⟨hc,hc2⟩
  ·go_wp2_with fail
   refine Met.intro (aj rfl ?_);intro K4 hK4;go_wp2_with fail;refine(HIS.o W2).mono ?_;rintro e w3 ⟨rfl,hw3⟩;rw[hw3];clear hw3;go_wp2_with fail;exact bodyPost_ret (v:=.bool true) (by simp[results,Tryz.results3,go_sem]) rfl ⟨rfl,D2.o⟩
  ·go_wp2_with fail
   refine Met.intro (aj rfl ?_);intro K4 hK4;go_wp2_with fail;refine(HIS.o W2).mono ?_;rintro e w3 ⟨rfl,hw3⟩;rw[hw3];clear hw3;go_wp2_with fail;exact bodyPost_ret (v:=.bool true) (by simp[results,Tryz.results3,go_sem]) rfl ⟨rfl,D2.o⟩
 ·have hc3i:(300:Int)<(m:Int):=by omega
  go_wp2_with fail;refine Met.intro (aj rfl ?_);intro K4 hK4;go_wp2_with fail;refine(HIS.o W2).mono ?_;rintro e w3 ⟨rfl,hw3⟩;rw[hw3];clear hw3;go_wp2_with fail;exact bodyPost_ret (v:=.bool true) (by simp[results,Tryz.results3,go_sem]) rfl ⟨rfl,D2.o⟩
theorem oX (n:Int) (a:Option Addr) (m c:Nat) (ds:List De) (w:World) (hd:DL w a m ds) :
 Calls Tryz.prog 3 #[.int .i64 n,.slice a m c] w (fun e w'=>e=.returned (.bool true)∧Below w.heap.size w w'):=by
 by_cases h:eh n m=0
 ·have h1:1≤n∧n≤32∧m≤300:=by
   unfold eh at h;split at h
   ·omega
   ·split at h
    ·omega
    ·omega
  obtain⟨n',rfl⟩:∃ n':Nat,n=(n':Int):=⟨n.toNat,by omega⟩
  exact qT n' a m c ds w (by omega) (by omega) h1.2.2 hd
 ·exact oY n a m c w h
end Go.Proofs.YtbicgjafjjihdaaGreat
