/- Part. -/
import Derived.Test.YtbicgjafjjihdaaGreatZ46
set_option maxHeartbeats 16000000
set_option maxRecDepth 100000
namespace Go.Proofs.YtbicgjafjjihdaaGreat
open Go.RowKit
namespace Mx
def doE (n:Nat) (x:De):Int:=if x.kind=0∨x.kind=1∨x.kind=2 then cK n x.at_ else if 3≤x.kind∧x.kind≤10 then 0 else 3
def doD (n:Nat) (now:List B8) (x:De):B8:=if x.kind=2 then gd n now x.at_ else zB
def doS (ae:List (List B8)) (now:List B8) (x:De):List (List B8):=if x.kind=3 then ae++[now] else ae
def doN (n:Nat) (ae:List (List B8)) (now:List B8) (x:De):List B8:=if x.kind=0 then dG n now x.at_ x.d else if x.kind=1 then dG n now x.at_ zB else if x.kind=8 then ae.getD (ae.length-1) [] else now
end Mx
/-- the deed and the answer are laid in boxes -/
theorem eb (Q:Ending→World→Prop) (B:Nat) (w:World) (kd at_ fr:Int) (d:B8)
 (h:∀ (W:World) {u1 u2 u6 u7 u8 u9 u10 u11 u12 u13 u14 u15 u16 u17 u18 u19 u20 u21 u22 u23 u24 u25 u26 u27 u28 u29 u30 u31 u32 u33 u34 u35 u36 u37 u38 u39 u40 u41 u42 u43 u44 u45 u46 u47 u48 u49 u50 u51 u52 u53 u54 u55 u56 u57 u58 u59 u60 u61 u62 u63 u64 u65 u66 u67 u68 u69 u70 u71 u72 u73 u74 u75 u76 u77 u78 u79 u80 u81 u82 u83 u84 u85 u86 u87 u88 u89 u90 u91 u92 u93 u94 u95 u96 u97 u98 u99 u100:Value},Hid (Bx W w.heap.size #[.int .i64 kd,.int .i64 at_,.int .i64 fr,.int .u8 d.z0,.int .u8 d.z1,.int .u8 d.z2,.int .u8 d.z3,.int .u8 d.z4,.int .u8 d.z5,.int .u8 d.z6,.int .u8 d.z7] 39)→Hid (Bx W (w.heap.size+1) #[.int .u8 0,.int .u8 0,.int .u8 0,.int .u8 0,.int .u8 0,.int .u8 0,.int .u8 0,.int .u8 0] 25)→Hid (Below w.heap.size w W) →
   aA Tryz.f15 Q 1 ⟨#[.pointer (some ⟨B,0,none⟩),u1,u2,.pointer (some ⟨w.heap.size,0,none⟩),.pointer (some ⟨w.heap.size+1,0,none⟩),.nilIface,u6,u7,u8,u9,u10,u11,u12,u13,u14,u15,u16,u17,u18,u19,u20,u21,u22,u23,u24,u25,u26,u27,u28,u29,u30,u31,u32,u33,u34,u35,u36,u37,u38,u39,u40,u41,u42,u43,u44,u45,u46,u47,u48,u49,u50,u51,u52,u53,u54,u55,u56,u57,u58,u59,u60,u61,u62,u63,u64,u65,u66,u67,u68,u69,u70,u71,u72,u73,u74,u75,u76,u77,u78,u79,u80,u81,u82,u83,u84,u85,u86,u87,u88,u89,u90,u91,u92,u93,u94,u95,u96,u97,u98,u99,u100],[]⟩ W) :
 Calls Tryz.prog 15 #[.pointer (some ⟨B,0,none⟩),.agg #[.int .i64 kd,.int .i64 at_,.int .i64 fr,.int .u8 d.z0,.int .u8 d.z1,.int .u8 d.z2,.int .u8 d.z3,.int .u8 d.z4,.int .u8 d.z5,.int .u8 d.z6,.int .u8 d.z7]] w Q:=by
 have H:=aa @h;clear h;obtain⟨W,hW⟩:∃ W:World,Hid (W=(w.alloc (.cells #[.int .i64 kd,.int .i64 at_,.int .i64 fr,.int .u8 d.z0,.int .u8 d.z1,.int .u8 d.z2,.int .u8 d.z3,.int .u8 d.z4,.int .u8 d.z5,.int .u8 d.z6,.int .u8 d.z7] 39)).alloc (.cells #[.int .u8 0,.int .u8 0,.int .u8 0,.int .u8 0,.int .u8 0,.int .u8 0,.int .u8 0,.int .u8 0] 25)):=⟨_,rfl⟩
 have D0:=aa (show Below w.heap.size w W by rw[hW.o];exact(af _ _).alloc (by simp) _);have B0:=aa (show Bx W w.heap.size #[.int .i64 kd,.int .i64 at_,.int .i64 fr,.int .u8 d.z0,.int .u8 d.z1,.int .u8 d.z2,.int .u8 d.z3,.int .u8 d.z4,.int .u8 d.z5,.int .u8 d.z6,.int .u8 d.z7] 39 by rw[hW.o];exact(Bx.new w _ _).alloc _);have B1:=aa (show Bx W (w.heap.size+1) #[.int .u8 0,.int .u8 0,.int .u8 0,.int .u8 0,.int .u8 0,.int .u8 0,.int .u8 0,.int .u8 0] 25 by
  rw[hW.o];have h9:=Bx.new (w.alloc (.cells #[.int .i64 kd,.int .i64 at_,.int .i64 fr,.int .u8 d.z0,.int .u8 d.z1,.int .u8 d.z2,.int .u8 d.z3,.int .u8 d.z4,.int .u8 d.z5,.int .u8 d.z6,.int .u8 d.z7] 39)) #[.int .u8 0,.int .u8 0,.int .u8 0,.int .u8 0,.int .u8 0,.int .u8 0,.int .u8 0,.int .u8 0] 25;rw[World.size_alloc] at h9;exact h9)
 go_enter Tryz.func15,Tryz.ntmps15;change aA Tryz.f15 Q 0 _ w;refine aj rfl ?_;intro K hK;go_wp2_with fail;rw[←hW.o];exact Met.intro (H.o W B0 B1 D0)
theorem Dh (S:Nat→Prop) (B n c:Nat) (ae:List (List B8)) (now:List B8) (p:Pf_) (o:Of_) (r:Rc_) (ls:List Lt_) (w:World) (hX:PaS S w B n c ae now p o r ls) (hc:c+1≤1000000) (kd at_ fr:Int) (d:B8) (ok:De.ok ⟨kd,at_,fr,d⟩) (x:B8) (hx:x=Mx.doD n now ⟨kd,at_,fr,d⟩) :
 Calls Tryz.prog 15 #[.pointer (some ⟨B,0,none⟩),.agg #[.int .i64 kd,.int .i64 at_,.int .i64 fr,.int .u8 d.z0,.int .u8 d.z1,.int .u8 d.z2,.int .u8 d.z3,.int .u8 d.z4,.int .u8 d.z5,.int .u8 d.z6,.int .u8 d.z7]] w fun e w'=>e=.returned (.tuple #[.agg #[.int .u8 x.z0,.int .u8 x.z1,.int .u8 x.z2,.int .u8 x.z3,.int .u8 x.z4,.int .u8 x.z5,.int .u8 x.z6,.int .u8 x.z7],bD (Mx.doE n ⟨kd,at_,fr,d⟩)])∧Hid (DoD S w w' B n (c+1) (Mx.doS ae now ⟨kd,at_,fr,d⟩) (Mx.doN n ae now ⟨kd,at_,fr,d⟩) o.back):=by
 have hXX:=hX;obtain⟨A,D,C,P,O,b,X,I⟩:=hX;have hNS:¬S w.heap.size∧¬S (w.heap.size+1):=⟨fun h=>by have:=X.mu.lt _ h;omega,fun h=>by have:=X.mu.lt _ h;omega⟩
 by_cases k0:kd=0
 ·have e1:Mx.doE n ⟨kd,at_,fr,d⟩=Mx.cK n at_:=by unfold Mx.doE;simp[k0]
  have e2:Mx.doS ae now ⟨kd,at_,fr,d⟩=ae:=by unfold Mx.doS;simp[k0]
  have e3:Mx.doN n ae now ⟨kd,at_,fr,d⟩=Mx.dG n now at_ d:=by unfold Mx.doN;simp[k0]
  have e4:x=zB:=by rw[hx];unfold Mx.doD;simp[k0]
  rw[e1,e2,e3];subst e4;exact eb _ B w kd at_ fr d (by intro W;intros;rename_i b0 b1 dv;exact zr (aa (X.later dv.o)) (aa I) hc (aa ok) b0 b1 (aa hNS) dv k0)
 by_cases k1:kd=1
 ·have e1:Mx.doE n ⟨kd,at_,fr,d⟩=Mx.cK n at_:=by unfold Mx.doE;simp[k1]
  have e2:Mx.doS ae now ⟨kd,at_,fr,d⟩=ae:=by unfold Mx.doS;simp[k1]
  have e3:Mx.doN n ae now ⟨kd,at_,fr,d⟩=Mx.dG n now at_ zB:=by unfold Mx.doN;simp[k1]
  have e4:x=zB:=by rw[hx];unfold Mx.doD;simp[k1]
  rw[e1,e2,e3];subst e4;exact eb _ B w kd at_ fr d (by intro W;intros;rename_i b0 b1 dv;exact Bz (aa (X.later dv.o)) (aa I) hc (aa ok) b0 b1 (aa hNS) dv k1)
 by_cases k2:kd=2
 ·have e1:Mx.doE n ⟨kd,at_,fr,d⟩=Mx.cK n at_:=by unfold Mx.doE;simp[k2]
  have e2:Mx.doS ae now ⟨kd,at_,fr,d⟩=ae:=by unfold Mx.doS;simp[k2]
  have e3:Mx.doN n ae now ⟨kd,at_,fr,d⟩=now:=by unfold Mx.doN;simp[k2]
  have e4:x=Mx.gd n now at_:=by rw[hx];unfold Mx.doD;simp[k2]
  rw[e1,e2,e3];clear hx;exact eb _ B w kd at_ fr d (by intro W;intros;rename_i b0 b1 dv;exact Bw (aa (X.later dv.o)) (aa I) hc (aa ok) b0 b1 (aa hNS) dv k2 (aa e4) (aa hXX) (aa (Nat.le_succ _)))
 by_cases k3:kd=3
 ·have e1:Mx.doE n ⟨kd,at_,fr,d⟩=0:=by unfold Mx.doE;simp[k3]
  have e2:Mx.doS ae now ⟨kd,at_,fr,d⟩=ae++[now]:=by unfold Mx.doS;simp[k3]
  have e3:Mx.doN n ae now ⟨kd,at_,fr,d⟩=now:=by unfold Mx.doN;simp[k3]
  have e4:x=zB:=by rw[hx];unfold Mx.doD;simp[k3]
  rw[e1,e2,e3,aH];subst e4;exact eb _ B w kd at_ fr d (by intro W;intros;rename_i b0 b1 dv;exact tT (aa (X.later dv.o)) (aa I) hc (aa ok) b0 b1 (aa hNS) dv k3)
 by_cases k4:kd=4
 ·have e1:Mx.doE n ⟨kd,at_,fr,d⟩=0:=by unfold Mx.doE;simp[k4]
  have e2:Mx.doS ae now ⟨kd,at_,fr,d⟩=ae:=by unfold Mx.doS;simp[k4]
  have e3:Mx.doN n ae now ⟨kd,at_,fr,d⟩=now:=by unfold Mx.doN;simp[k4]
  have e4:x=zB:=by rw[hx];unfold Mx.doD;simp[k4]
  rw[e1,e2,e3,aH];subst e4;exact eb _ B w kd at_ fr d (by intro W;intros;rename_i b0 b1 dv;exact By (aa (X.later dv.o)) (aa I) hc (aa ok) b0 b1 (aa hNS) dv k4)
 by_cases k5:kd=5
 ·have e1:Mx.doE n ⟨kd,at_,fr,d⟩=0:=by unfold Mx.doE;simp[k5]
  have e2:Mx.doS ae now ⟨kd,at_,fr,d⟩=ae:=by unfold Mx.doS;simp[k5]
  have e3:Mx.doN n ae now ⟨kd,at_,fr,d⟩=now:=by unfold Mx.doN;simp[k5]
  have e4:x=zB:=by rw[hx];unfold Mx.doD;simp[k5]
  rw[e1,e2,e3,aH];subst e4;exact eb _ B w kd at_ fr d (by intro W;intros;rename_i b0 b1 dv;exact tU (aa (X.later dv.o)) (aa I) hc (aa ok) b0 b1 (aa hNS) dv k5)
 by_cases k6:kd=6
 ·have e1:Mx.doE n ⟨kd,at_,fr,d⟩=0:=by unfold Mx.doE;simp[k6]
  have e2:Mx.doS ae now ⟨kd,at_,fr,d⟩=ae:=by unfold Mx.doS;simp[k6]
  have e3:Mx.doN n ae now ⟨kd,at_,fr,d⟩=now:=by unfold Mx.doN;simp[k6]
  have e4:x=zB:=by rw[hx];unfold Mx.doD;simp[k6]
  rw[e1,e2,e3,aH];subst e4;exact eb _ B w kd at_ fr d (by intro W;intros;rename_i b0 b1 dv;exact Bv (aa (X.later dv.o)) (aa I) hc (aa ok) b0 b1 (aa hNS) dv k6)
 by_cases k7:kd=7
 ·have e1:Mx.doE n ⟨kd,at_,fr,d⟩=0:=by unfold Mx.doE;simp[k7]
  have e2:Mx.doS ae now ⟨kd,at_,fr,d⟩=ae:=by unfold Mx.doS;simp[k7]
  have e3:Mx.doN n ae now ⟨kd,at_,fr,d⟩=now:=by unfold Mx.doN;simp[k7]
  have e4:x=zB:=by rw[hx];unfold Mx.doD;simp[k7]
  rw[e1,e2,e3,aH];subst e4;exact eb _ B w kd at_ fr d (by intro W;intros;rename_i b0 b1 dv;exact wN (aa (X.later dv.o)) (aa I) hc (aa ok) b0 b1 (aa hNS) dv k7)
 obtain⟨bl,hbl,_,_,_⟩:=I.last;have hbl2:ae.getD (ae.length-1) []=bl:=by rw[I.len,Nat.add_sub_cancel,Fu,hbl];rfl
 by_cases k8:kd=8
 ·have e1:Mx.doE n ⟨kd,at_,fr,d⟩=0:=by unfold Mx.doE;simp[k8]
  have e2:Mx.doS ae now ⟨kd,at_,fr,d⟩=ae:=by unfold Mx.doS;simp[k8]
  have e3:Mx.doN n ae now ⟨kd,at_,fr,d⟩=bl:=by unfold Mx.doN;simp only[k8];rw[if_neg (by decide),if_neg (by decide),if_pos trivial];exact hbl2
  have e4:x=zB:=by rw[hx];unfold Mx.doD;simp[k8]
  rw[e1,e2,e3,aH];subst e4;exact eb _ B w kd at_ fr d (by intro W;intros;rename_i b0 b1 dv;exact zo (aa (X.later dv.o)) (aa I) hc (aa ok) b0 b1 (aa hNS) dv k8 (aa hbl))
 by_cases k9:kd=9
 ·have e1:Mx.doE n ⟨kd,at_,fr,d⟩=0:=by unfold Mx.doE;simp[k9]
  have e2:Mx.doS ae now ⟨kd,at_,fr,d⟩=ae:=by unfold Mx.doS;simp[k9]
  have e3:Mx.doN n ae now ⟨kd,at_,fr,d⟩=now:=by unfold Mx.doN;simp[k9]
  have e4:x=zB:=by rw[hx];unfold Mx.doD;simp[k9]
  rw[e1,e2,e3,aH];subst e4;exact eb _ B w kd at_ fr d (by intro W;intros;rename_i b0 b1 dv;exact zp (aa (X.later dv.o)) (aa I) hc (aa ok) b0 b1 (aa hNS) dv k9)
 by_cases k10:kd=10
 ·have e1:Mx.doE n ⟨kd,at_,fr,d⟩=0:=by unfold Mx.doE;simp[k10]
  have e2:Mx.doS ae now ⟨kd,at_,fr,d⟩=ae:=by unfold Mx.doS;simp[k10]
  have e3:Mx.doN n ae now ⟨kd,at_,fr,d⟩=now:=by unfold Mx.doN;simp[k10]
  have e4:x=zB:=by rw[hx];unfold Mx.doD;simp[k10]
  rw[e1,e2,e3,aH];subst e4;exact eb _ B w kd at_ fr d (by intro W;intros;rename_i b0 b1 dv;exact wO (aa (X.later dv.o)) (aa I) hc (aa ok) b0 b1 (aa hNS) dv k10)
 have e1:Mx.doE n ⟨kd,at_,fr,d⟩=3:=by
  unfold Mx.doE;simp only;rw[if_neg (by omega),if_neg (by omega)]
 have e2:Mx.doS ae now ⟨kd,at_,fr,d⟩=ae:=by unfold Mx.doS;simp[k3]
 have e3:Mx.doN n ae now ⟨kd,at_,fr,d⟩=now:=by unfold Mx.doN;simp[k0,k1,k8]
 have e4:x=zB:=by rw[hx];unfold Mx.doD;simp[k2]
 rw[e1,e2,e3];subst e4;exact eb _ B w kd at_ fr d (by intro W;intros;rename_i b0 b1 dv;exact zq (aa (X.later dv.o)) (aa I) hc (aa ok) b0 b1 (aa hNS) dv (aa ⟨k0,k1,k2,k3,k4,k5,k6,k7,k8,k9,k10⟩))
def eh (n:Int) (m:Nat):Int:=if n<1∨32<n then 1 else if 300<m then 2 else 0
theorem tM (n:Int) (a:Option Addr) (m c:Nat) (w:World) (h:eh n m≠0) :
 Calls Tryz.prog 14 #[.int .i64 n,.slice a m c] w fun e w'=>e=.returned (.tuple #[.pointer none,.iface 23 (.int .i64 (eh n m))])∧w'=w:=by
 by_cases h1:n<1
 ·have e1:eh n m=1:=by unfold eh;rw[if_pos (.inl h1)]
  rw[e1];clear h e1;go_enter Tryz.func14,Tryz.ntmps14;go_wp2_with fail;exact bodyPost_ret (v:=.tuple #[.pointer none,.iface 23 (.int .i64 1)]) (by simp[results,Tryz.results14,go_sem]) rfl ⟨rfl,rfl⟩
 ·by_cases h2:32<n
  ·have e1:eh n m=1:=by unfold eh;rw[if_pos (.inr h2)]
   rw[e1];clear h e1;go_enter Tryz.func14,Tryz.ntmps14;go_wp2_with fail;exact bodyPost_ret (v:=.tuple #[.pointer none,.iface 23 (.int .i64 1)]) (by simp[results,Tryz.results14,go_sem]) rfl ⟨rfl,rfl⟩
  ·by_cases h3:300<m
   ·have e1:eh n m=2:=by unfold eh;rw[if_neg (by omega),if_pos h3]
    rw[e1];have h3i:(300:Int)<(m:Int):=by omega
    clear h e1;go_enter Tryz.func14,Tryz.ntmps14;go_wp2_with fail;exact bodyPost_ret (v:=.tuple #[.pointer none,.iface 23 (.int .i64 2)]) (by simp[results,Tryz.results14,go_sem]) rfl ⟨rfl,rfl⟩
   ·exact absurd (by unfold eh;rw[if_neg (by omega),if_neg h3]) h
theorem wm (n:Nat) (a:Option Addr) (m c:Nat) (w:World) (h1:1≤n) (h2:n≤32) (h3:m≤300) :
 Calls Tryz.prog 14 #[.int .i64 (n:Int),.slice a m c] w fun e w'=>∃ B,e=.returned (.tuple #[.pointer (some ⟨B,0,none⟩),.nilIface])∧Hid (∃ S p o r,PaS S w' B n 1 [List.replicate n zB] (List.replicate n zB) p o r []∧(∀ x,S x→w.heap.size≤x))∧Hid (Below w.heap.size w w'):=by
 have h1i:¬(n:Int)<1:=by omega
 have h2i:¬(32:Int)<(n:Int):=by omega
 have h3i:¬(300:Int)<(m:Int):=by omega
 go_enter Tryz.func14,Tryz.ntmps14;go_wp2_with fail;refine(qI (fun _=>False) n w (Mut.none w) h1 h2).mono ?_;rintro e w1 ⟨P,rfl,K1,D1⟩;obtain⟨N1,n1,m1,p1⟩:=K1.o;have M1:=aa m1;have P1:=aa p1;have F1:=aa n1;clear m1 p1 n1 K1;go_wp2_with fail;refine(sy (fun b=>False∨N1 b) n w1 M1.o h1 h2).mono ?_;rintro e w2 ⟨O,rfl,K2,D2⟩;obtain⟨N2,n2,m2,o2⟩:=K2.o;have M2:=aa m2;have O2:=aa o2;have F2:=aa n2;clear m2 o2 n2 K2;obtain⟨W3,hW3⟩:∃ W3:World,Hid (W3=w2.alloc (.cells #[.pointer (some ⟨P,0,none⟩),.pointer (some ⟨O,0,none⟩),.slice none 0 0] 72)):=⟨_,rfl⟩
 obtain⟨B,hB⟩:∃ B:Nat,Hid (B=w2.heap.size):=⟨_,rfl⟩
 have D3:=beA hW3;have X3:=aa (show Bx W3 B #[.pointer (some ⟨P,0,none⟩),.pointer (some ⟨O,0,none⟩),.slice none 0 0] 72 by rw[hW3.o,hB.o];exact Bx.new w2 _ _);go_wp2_with fail;rw[←hW3.o,←hB.o];refine bodyPost_ret (v:=.tuple #[.pointer (some ⟨B,0,none⟩),.nilIface]) (by simp[results,Tryz.results14,go_sem]) rfl ⟨B,rfl,aa ⟨fun b=>((False∨N1 b)∨N2 b)∨b=B,⟨0,1,0,false,0,0,[],[]⟩,⟨0,0,true,2147483647,[],[]⟩,⟨0,[],0,0,0,[],[]⟩,⟨N1,N2,fun b=>b=B,P,O,⟨0,[],[],false⟩,?_,Mx.zm h1 h2⟩,?_⟩,aa (D1.o.trans ((D2.o.trans (D3.o.mono D2.o.size)).mono D1.o.size))⟩
 ·have hlt1:∀ x,N1 x→x<w1.heap.size:=fun x hx=>M1.o.lt x (.inr hx)
  have hlt2:∀ x,N2 x→x<w2.heap.size:=fun x hx=>M2.o.lt x (.inr hx)
  have hs2:=D2.o.size;have hB':=hB.o;have M3:=(M2.o.later D3.o).add X3.o (dA _ rfl);have wd12:Wd (fun b=>False∨N1 b) (fun b=>(False∨N1 b)∨N2 b) w1:=fun x hx hs=>by
   rcases hs with hs|hs
   ·exact hs
   ·have:=F2.o x hs;omega
  have wd23:Wd (fun b=>(False∨N1 b)∨N2 b) (fun b=>((False∨N1 b)∨N2 b)∨b=B) w2:=fun x hx hs=>by
   rcases hs with hs|hs
   ·exact hs
   ·omega
  have pr2:PrW N1 (fun b=>(False∨N1 b)∨N2 b) w2 P n [List.replicate n zB] ⟨0,[],[],false⟩ ⟨0,1,0,false,0,0,[],[]⟩:=(P1.o.wd wd12 (fun x hx=>.inl (.inr hx))).later D2.o;exact⟨M3,(pr2.wd wd23 (fun x hx=>.inl (.inl (.inr hx)))).later D3.o,(O2.o.wd wd23 (fun x hx=>.inl (.inr hx))).later D3.o,
   ⟨_,[],X3.o,cH.nil _,rfl,fun k hk=>(by cases hk),fun x hx=>.inr hx,rfl,Nat.zero_le _,fun i x lt h=>by simp at h⟩,
   fun x hx hy=>by have h8:=hlt1 x hx;have h9:=F2.o x hy;omega,fun x hx hy=>by have h8:=hlt1 x hx;have:x=B:=hy;omega,fun x hx hy=>by have h8:=hlt2 x hx;have:x=B:=hy;omega⟩
 ·intro x hx
  have hs1:=D1.o.size;have hs2:=D2.o.size;have hB':=hB.o;rcases hx with ((hx|hx)|hx)|hx
  ·exact hx.elim
  ·exact F1.o x hx
  ·have:=F2.o x hx;omega
  ·omega
section
variable {w:World} {a:Option Addr} {m:Nat}
def De.cs (x:De):List Value:=[.int .i64 x.kind,.int .i64 x.at_,.int .i64 x.from_,.int .u8 x.d.z0,.int .u8 x.d.z1,.int .u8 x.d.z2,.int .u8 x.d.z3,.int .u8 x.d.z4,.int .u8 x.d.z5,.int .u8 x.d.z6,.int .u8 x.d.z7]
def DL (w:World) (a:Option Addr) (m:Nat) (ds:List De):Prop :=
 ds.length=m∧(∀ x∈ds,x.ok)∧(0<m→∃ b off,a=some ⟨b,off,none⟩∧b<w.heap.size∧∀ i x,ds[i]?=some x→∀ j u,x.cs[j]?=some u→w.cell? ⟨b,off+i*11+j,none⟩=some u)
theorem DL.later {w':World} {ds:List De} (h:DL w a m ds) {B:Nat} (hb:Below B w w') (hB:Av (fun b=>b<B) a m):DL w' a m ds:=by
 obtain⟨h1,h2,h3⟩:=h;refine⟨h1,h2,fun h0=>?_⟩;obtain⟨b,off,ha,hlt,hc⟩:=h3 h0;refine⟨b,off,ha,Fz hlt hb.size,fun i x hx j u hu=>?_⟩;exact(hb.cell (p:=⟨b,off+i*11+j,none⟩) (show b<B from hB h0 _ ha)).trans (hc i x hx j u hu)
theorem DL.av {ds:List De} (h:DL w a m ds):Av (fun b=>b<w.heap.size) a m:=fun h0 p hp=>by
 obtain⟨b,off,ha,hlt,_⟩:=h.2.2 h0;rw[ha] at hp;cases hp
 exact hlt
theorem DL.at_ {w:World} {a:Option Addr} {m:Nat} {ds:List De} (h:DL w a m ds) (k:Nat) (hk:k<m):∃ b off x,a=some ⟨b,off,none⟩∧ds[k]?=some x∧x.ok∧b<w.heap.size ∧
 w.cell? ⟨b,off+k*11,none⟩=some (.int .i64 x.kind)∧w.cell? ⟨b,off+k*11+1,none⟩=some (.int .i64 x.at_)∧w.cell? ⟨b,off+k*11+2,none⟩=some (.int .i64 x.from_)∧w.cell? ⟨b,off+k*11+3,none⟩=some (.int .u8 x.d.z0)∧w.cell? ⟨b,off+k*11+4,none⟩=some (.int .u8 x.d.z1)∧w.cell? ⟨b,off+k*11+5,none⟩=some (.int .u8 x.d.z2)∧w.cell? ⟨b,off+k*11+6,none⟩=some (.int .u8 x.d.z3)∧w.cell? ⟨b,off+k*11+7,none⟩=some (.int .u8 x.d.z4)∧w.cell? ⟨b,off+k*11+8,none⟩=some (.int .u8 x.d.z5)∧w.cell? ⟨b,off+k*11+9,none⟩=some (.int .u8 x.d.z6)∧w.cell? ⟨b,off+k*11+10,none⟩=some (.int .u8 x.d.z7):=by
 obtain⟨b,off,ha,hlt,hc⟩:=h.2.2 (by omega);have hx:ds[k]?=some (ds[k]'(by rw[h.1];exact hk)):=Ft _;have hh:=hc k _ hx;exact⟨b,off,_,ha,hx,h.2.1 _ (FN hx),hlt,hh 0 _ rfl,hh 1 _ rfl,hh 2 _ rfl,hh 3 _ rfl,hh 4 _ rfl,hh 5 _ rfl,hh 6 _ rfl,hh 7 _ rfl,hh 8 _ rfl,hh 9 _ rfl,hh 10 _ rfl⟩
namespace Mx
def tc (n:Nat) (st:List (List B8) × List B8) (x:De):List (List B8) × List B8:=(doS st.1 st.2 x,doN n st.1 st.2 x)
def aI (n:Nat) (ds:List De):List (List B8) × List B8:=ds.foldl (tc n) ([List.replicate n zB],List.replicate n zB)
theorem gH (n:Nat) (ds:List De) (x:De):aI n (ds++[x])=tc n (aI n ds) x:=by unfold aI;rw[List.foldl_append];rfl
end Mx
def Ct (w w':World) (n:Nat) (ds:List De) (rv:Value) (k:Nat):Prop :=
 ∃ (hv q:Nat) (bl:List B8),rv=.agg #[.int .i64 0,.int .u8 0,.int .u8 0,.int .u8 0,.int .u8 0,.int .u8 0,.int .u8 0,.int .u8 0,.int .u8 0,.int .i64 (hv:Int),.int .i64 (hv:Int),.int .i64 (hv:Int),.slice (some ⟨q,0,none⟩) n n]∧k≤3∧(Mx.aI n ds).1.length=hv+1∧(Mx.aI n ds).1[hv]?=some bl∧au w' w.heap.size (.slice (some ⟨q,0,none⟩) n n) bl∧(∀ l∈(Mx.aI n ds).1,l.length=n∧∀ x∈l,Mx.by8 x)∧((Mx.aI n ds).2.length=n∧∀ x∈(Mx.aI n ds).2,Mx.by8 x)∧Below w.heap.size w w'
theorem xq (n:Int) (a:Option Addr) (m c:Nat) (w:World) (h:eh n m≠0) :
 Calls Tryz.prog 6 #[.int .i64 n,.slice a m c] w fun e w'=>e=.returned (.tuple #[.agg #[.int .i64 0,.int .u8 0,.int .u8 0,.int .u8 0,.int .u8 0,.int .u8 0,.int .u8 0,.int .u8 0,.int .u8 0,.int .i64 0,.int .i64 0,.int .i64 0,.slice none 0 0],.int .i64 0,.iface 23 (.int .i64 (eh n m))])∧Hid (Below w.heap.size w w'):=by
 have HH:=aa h;obtain⟨E,hE⟩:∃ E:Int,Hid (E=eh n m):=⟨_,rfl⟩
 obtain⟨W0,hW0⟩:∃ W0:World,Hid (W0=w.alloc (.cells #[.int .i64 0,.int .u8 0,.int .u8 0,.int .u8 0,.int .u8 0,.int .u8 0,.int .u8 0,.int .u8 0,.int .u8 0,.int .i64 0,.int .i64 0,.int .i64 0,.slice none 0 0] 28)):=⟨_,rfl⟩
 have D0:=beA hW0;have Z0:=bxA hW0;rw[←hE.o];clear h;go_enter Tryz.func6,Tryz.ntmps6;go_upto_region 1 with fail
 rw[←hW0.o];go_wp2_with fail;refine(tM n a m c W0 HH.o).mono ?_;rintro e w1 ⟨rfl,hw1⟩;rw[hw1,←hE.o];clear hw1;have zf:=Z0.o.frozen;have r0:=Z0.o.cell 0;have r1:=Z0.o.cell 1;have r2:=Z0.o.cell 2;have r3:=Z0.o.cell 3;have r4:=Z0.o.cell 4;have r5:=Z0.o.cell 5;have r6:=Z0.o.cell 6;have r7:=Z0.o.cell 7;have r8:=Z0.o.cell 8;have r9:=Z0.o.cell 9;have r10:=Z0.o.cell 10;have r11:=Z0.o.cell 11;have r12:=Z0.o.cell 12;simp only[Fx,Fw,Fv] at r0 r1 r2 r3 r4 r5 r6 r7 r8 r9 r10 r11 r12;have HID:=aa (show jN W0 w.heap.size 0 0 0 (.slice none 0 0)=W0 by
  unfold jN;rw[bH Z0.o rfl,bH Z0.o rfl,bH Z0.o rfl,bH Z0.o rfl,bH Z0.o rfl,bH Z0.o rfl,bH Z0.o rfl,bH Z0.o rfl,bH Z0.o rfl,bH Z0.o rfl,bH Z0.o rfl,bH Z0.o rfl,bH Z0.o rfl])
 unfold jN at HID;go_wp2_with fail;rw[HID.o];exact bodyPost_ret (v:=.tuple #[.agg #[.int .i64 0,.int .u8 0,.int .u8 0,.int .u8 0,.int .u8 0,.int .u8 0,.int .u8 0,.int .u8 0,.int .u8 0,.int .i64 0,.int .i64 0,.int .i64 0,.slice none 0 0],.int .i64 0,.iface 23 (.int .i64 E)]) (by simp[results,Tryz.results6,go_sem,r0,r1,r2,r3,r4,r5,r6,r7,r8,r9,r10,r11,r12]) rfl ⟨rfl,D0⟩
end
theorem Mv.rC {S S':Nat→Prop} {w w':World} {B:Nat} (h:Mv S S' w w') (hB:B≤w.heap.size) (hs:∀ x,S x→B≤x):Below B w w'∧∀ x,S' x→B≤x :=
 ⟨h.ext.toBelow_of hB hs,fun x hx=>by
  by_cases hl:x<w.heap.size
  ·exact hs x (h.wd x hl hx)
  ·omega⟩
def StD (W0 wr:World) (B n k:Nat) (ds:List De):Prop:=∃ S p o r ls,PaS S wr B n (1+k) (Mx.aI n (ds.take k)).1 (Mx.aI n (ds.take k)).2 p o r ls∧(∀ x,S x→W0.heap.size≤x)∧Below W0.heap.size W0 wr
theorem qt (n:Nat) (a:Option Addr) (m c:Nat) (ds:List De) (w:World) (h1:1≤n) (h2:n≤32) (h3:m≤300) (hd:DL w a m ds) :
 Calls Tryz.prog 6 #[.int .i64 (n:Int),.slice a m c] w fun e w'=>∃ rv k,e=.returned (.tuple #[rv,.int .i64 ((k:Nat):Int),.nilIface])∧Hid (Ct w w' n ds rv k):=by
 have HD:=aa hd;obtain⟨W0,hW0⟩:∃ W0:World,Hid (W0=w.alloc (.cells #[.int .i64 0,.int .u8 0,.int .u8 0,.int .u8 0,.int .u8 0,.int .u8 0,.int .u8 0,.int .u8 0,.int .u8 0,.int .i64 0,.int .i64 0,.int .i64 0,.slice none 0 0] 28)):=⟨_,rfl⟩
 have D0:=beA hW0;have Z0:=bxA hW0;have HD0:=aa (HD.o.later D0.o HD.o.av);have HAV:=aa (show Av (fun b=>b<W0.heap.size) a m from HD0.o.av);clear hd;go_enter Tryz.func6,Tryz.ntmps6;go_upto_region 1 with fail
 rw[←hW0.o];go_wp2_with fail;refine(wm n a m c W0 h1 h2 h3).mono ?_;rintro e w1 ⟨B,rfl,K1,D1⟩;have L1:=aa (show StD W0 w1 B n 0 ds by
  obtain⟨S,p,o,r,hp,hs⟩:=K1.o;exact⟨S,p,o,r,[],hp,hs,D1.o⟩)
 clear K1;go_upto_region 5 with fail
 go_loopw [10,25] (fun _ t wr=>∃ k:Nat,k≤m∧t=.int .i64 (k:Int)∧Hid (StD W0 wr B n k ds)) (fun _ t _=>m-(intOf t).toNat)
 case atStart=>exact⟨0,Nat.zero_le _,rfl,L1⟩
 case round =>
  obtain⟨k,hk,rfl,hL⟩:=hrel;by_cases hlt:k<m
  ·have hlti:(k:Int)<(m:Int):=by omega
   obtain⟨S,p,o,r,ls,hP,hS,hB⟩:=hL.o;have HP:=aa hP;have HS:=aa hS;have HB:=aa hB;obtain⟨b,off,x,ha,hx,hok,hbl,x0,x1,x2,x3,x4,x5,x6,x7,x8,x9,x10⟩:=(HD0.o.later HB.o HAV.o).at_ k hlt;subst ha;have HXK:=aa hx;have HOK:=aa hok;clear hx hok hP hS hB hL;obtain⟨kd,at_,fr,d⟩:=x;simp only at x0 x1 x2 x3 x4 x5 x6 x7 x8 x9 x10;obtain⟨W2,hW2⟩:∃ W2:World,Hid (W2=wr.alloc (.cells #[.int .i64 kd,.int .i64 at_,.int .i64 fr,.int .u8 d.z0,.int .u8 d.z1,.int .u8 d.z2,.int .u8 d.z3,.int .u8 d.z4,.int .u8 d.z5,.int .u8 d.z6,.int .u8 d.z7] 39)):=⟨_,rfl⟩
   have D2:=beA hW2;have B2:=bxA hW2;go_upto_region 7 with fail
   rw[←hW2.o];clear x0 x1 x2 x3 x4 x5 x6 x7 x8 x9 x10;have y0:=B2.o.cell 0;have y1:=B2.o.cell 1;have y2:=B2.o.cell 2;have y3:=B2.o.cell 3;have y4:=B2.o.cell 4;have y5:=B2.o.cell 5;have y6:=B2.o.cell 6;have y7:=B2.o.cell 7;have y8:=B2.o.cell 8;have y9:=B2.o.cell 9;have y10:=B2.o.cell 10;simp only[Fx,Fw,Fv] at y0 y1 y2 y3 y4 y5 y6 y7 y8 y9 y10;go_wp2_with fail;refine(Dh S B n (1+k) _ _ p o r ls W2 (HP.o.later D2.o) (by omega) kd at_ fr d HOK.o _ rfl).mono ?_;rintro e w3 ⟨rfl,K3⟩;have L3:=aa (show StD W0 w3 B n (k+1) ds by
    obtain⟨S',p',o',r',ls',q1,q2,q3⟩:=K3.o;have e1:ds.take (k+1)=ds.take k++[⟨kd,at_,fr,d⟩]:=by rw[List.take_add_one,HXK.o];rfl
    have q4:=((Mv.below D2.o).trans q3).rC HB.o.size HS.o;refine⟨S',p',o',r',ls',?_,q4.2,HB.o.trans q4.1⟩;rw[e1,Mx.gH];exact q1)
   clear y0 y1 y2 y3 y4 y5 y6 y7 y8 y9 y10 K3;go_wp2_with fail;go_roundw
   case rel=>exact⟨k+1,by omega,by go_num,L3⟩
   case measure=>simp[intOf];omega
  ·have hkq:k=m:=by omega
   subst hkq;have HT:=aa (show ds.take k=ds from FH (by have:=HD.o.1;omega));obtain⟨S,p,o,r,ls,hP,hS,hB⟩:=hL.o;rw[HT.o] at hP;have HP:=aa hP;have HS:=aa hS;have HB:=aa hB;clear hP hS hB hL;go_wp2_with fail;refine(tV S B n (1+k) _ _ p o r ls wr HP.o (by omega)).mono ?_;rintro e w3 ⟨t,rfl,ht3,K3⟩;obtain⟨S3,p3,o3,r3,c3,hsafe,hP3,hM3⟩:=K3.o;have hq4:=hM3.rC HB.o.size HS.o;have HP3:=aa hP3;have F3:=aa (show Below W0.heap.size W0 w3 from HB.o.trans hq4.1);have hlen:=hP3.len;have hbk:o3.back=p3.ao∧(∀ l∈(Mx.aI n ds).1,l.length=n∧∀ x∈l,Mx.by8 x)∧((Mx.aI n ds).2.length=n∧∀ x∈(Mx.aI n ds).2,Mx.by8 x):=by
    obtain⟨A,D,C,P,O,b,X,I⟩:=hP3;have h9:=I.bt.1.safe;have h8:=I.bt.1.back;exact⟨by omega,I.seen.sl,I.seen.nl⟩
   obtain⟨bl,hbl⟩:∃ bl,(Mx.aI n ds).1[p3.ao]?=some bl:=⟨_,Ft (by omega)⟩
   obtain⟨hv,hhv⟩:∃ hv:Nat,Hid (hv=p3.ao):=⟨_,rfl⟩
   have HF:=aa (show p3.safe=hv∧o3.back=hv∧p3.ao=hv∧(Mx.aI n ds).1.length=hv+1∧(Mx.aI n ds).1[hv]?=some bl from by rw[hhv.o];exact⟨hsafe,hbk.1,rfl,hlen,hbl⟩);have HG:=aa hbk.2;clear hsafe hP3 hM3 hq4 hlen hbk hbl K3;go_wp2_with fail;refine(xb S3 B n c3 _ _ p3 o3 r3 [] w3 HP3.o bl (by rw[HF.o.2.1];exact HF.o.2.2.2.2)).mono ?_;rintro e w4 ⟨q,rfl,O4,D4⟩;rw[HF.o.1,HF.o.2.1,HF.o.2.2.1];have F4:=aa (show Below W0.heap.size W0 w4 from F3.o.trans (D4.o.mono F3.o.size));obtain⟨W5,hW5⟩:∃ W5:World,Hid (W5=w4.alloc (.cells #[.int .i64 0,.int .u8 0,.int .u8 0,.int .u8 0,.int .u8 0,.int .u8 0,.int .u8 0,.int .u8 0,.int .u8 0,.int .i64 (hv:Int),.int .i64 (hv:Int),.int .i64 (hv:Int),.slice (some ⟨q,0,none⟩) n n] 28)):=⟨_,rfl⟩
   have D5:=beA hW5;have B5:=bxA hW5;have F5:=aa (show Below W0.heap.size W0 W5 from F4.o.trans (D5.o.mono F4.o.size));have O5:=aa (show au W5 w3.heap.size (.slice (some ⟨q,0,none⟩) n n) bl from bm O4.o D5.o);go_upto_region 13 with fail
   rw[←hW5.o];have Z5:=aa (Bx.later Z0.o F5.o Z0.o.lt);have zf:=Z5.o.frozen;have z0:=Z5.o.cell 0;have z1:=Z5.o.cell 1;have z2:=Z5.o.cell 2;have z3:=Z5.o.cell 3;have z4:=Z5.o.cell 4;have z5:=Z5.o.cell 5;have z6:=Z5.o.cell 6;have z7:=Z5.o.cell 7;have z8:=Z5.o.cell 8;have z9:=Z5.o.cell 9;have z10:=Z5.o.cell 10;have z11:=Z5.o.cell 11;have z12:=Z5.o.cell 12;simp only[Fx,Fw,Fv] at z0 z1 z2 z3 z4 z5 z6 z7 z8 z9 z10 z11 z12;have y0:=B5.o.cell 0;have y1:=B5.o.cell 1;have y2:=B5.o.cell 2;have y3:=B5.o.cell 3;have y4:=B5.o.cell 4;have y5:=B5.o.cell 5;have y6:=B5.o.cell 6;have y7:=B5.o.cell 7;have y8:=B5.o.cell 8;have y9:=B5.o.cell 9;have y10:=B5.o.cell 10;have y11:=B5.o.cell 11;have y12:=B5.o.cell 12;simp only[Fx,Fw,Fv] at y0 y1 y2 y3 y4 y5 y6 y7 y8 y9 y10 y11 y12;obtain⟨W6,hW6⟩:∃ W6:World,Hid (W6=jN W5 w.heap.size (hv:Int) (hv:Int) (hv:Int) (.slice (some ⟨q,0,none⟩) n n)):=⟨_,rfl⟩
   have B6:=aa (show Bx W6 w.heap.size #[.int .i64 0,.int .u8 0,.int .u8 0,.int .u8 0,.int .u8 0,.int .u8 0,.int .u8 0,.int .u8 0,.int .u8 0,.int .i64 (hv:Int),.int .i64 (hv:Int),.int .i64 (hv:Int),.slice (some ⟨q,0,none⟩) n n] 28 by rw[hW6.o];exact uv Z5.o _ _ _ _);have G6:=aa (show W5.grownBy W6 (some w.heap.size) by rw[hW6.o];exact ob _ _ _ _ _ _);have hne:¬w4.heap.size=w.heap.size:=by have h9:=Z0.o.lt;have h8:=F4.o.size;omega
   unfold jN at hW6;go_wp2_with fail;rw[←hW6.o];clear z0 z1 z2 z3 z4 z5 z6 z7 z8 z9 z10 z11 z12 y0 y1 y2 y3 y4 y5 y6 y7 y8 y9 y10 y11 y12 zf;have r0:=B6.o.cell 0;have r1:=B6.o.cell 1;have r2:=B6.o.cell 2;have r3:=B6.o.cell 3;have r4:=B6.o.cell 4;have r5:=B6.o.cell 5;have r6:=B6.o.cell 6;have r7:=B6.o.cell 7;have r8:=B6.o.cell 8;have r9:=B6.o.cell 9;have r10:=B6.o.cell 10;have r11:=B6.o.cell 11;have r12:=B6.o.cell 12;simp only[Fx,Fw,Fv] at r0 r1 r2 r3 r4 r5 r6 r7 r8 r9 r10 r11 r12;refine bodyPost_ret (v:=.tuple #[.agg #[.int .i64 0,.int .u8 0,.int .u8 0,.int .u8 0,.int .u8 0,.int .u8 0,.int .u8 0,.int .u8 0,.int .u8 0,.int .i64 (hv:Int),.int .i64 (hv:Int),.int .i64 (hv:Int),.slice (some ⟨q,0,none⟩) n n],.int .i64 (t:Int),.nilIface]) (by simp[results,Tryz.results6,go_sem,r0,r1,r2,r3,r4,r5,r6,r7,r8,r9,r10,r11,r12]) rfl ⟨_,t,rfl,aa ⟨hv,q,bl,rfl,ht3.o,HF.o.2.2.2.1,HF.o.2.2.2.2,?_,HG.o.1,HG.o.2,?_⟩⟩
   ·have h9:=Z0.o.lt
    have h8:=F3.o.size;have hq:=(World.ownsRow.lt O5.o q rfl).1;exact World.ownsRow.mono (World.ownsRow.kept O5.o G6.o (.inr (fun e=>by have h7:=FC e;simp at h7;omega))) (by omega)
   ·exact aT (D0.o.trans (F5.o.mono D0.o.size)) G6.o (FG _)
section
variable {base n c:Nat} {w w':World} {v:Value} {Z:Nat→Prop}
def cy (base:Nat) (w:World) (v:Value) (n:Nat) (ae:List (List B8)) (Z:Nat→Prop):Prop :=
 ∃ vs:List Value,w.ownsRow base 26 1 v ae.length vs∧∀ (i:Nat) (l:List B8),ae[i]?=some l→∃ (a:Option Addr) (c:Nat),vs[i]?=some (.slice a n c)∧BL w a n l∧n≤c∧∀ p,a=some p→base≤p.block∧p.block<w.heap.size∧¬Z p.block∧v.ownBlock≠some p.block
theorem Tryz.info26s:(Tryz.prog.info? 26).map (fun i=>(i.zero,i.size,i.bytes))=some (some (.slice none 0 0),1,24):=by kernel_rfl
theorem cy.nil (base:Nat) (w:World) (n:Nat) (Z:Nat→Prop):cy base w (.slice none 0 0) n [] Z:=⟨[],World.ownsRow_nil w base _ 1,fun i e he=>by simp at he⟩
theorem cy.lt {base:Nat} {w:World} {v:Value} {n:Nat} {ae:List (List B8)} {Z:Nat→Prop} (h:cy base w v n ae Z):∀ k,v.ownBlock=some k→base≤k∧k<w.heap.size:=by
 obtain⟨vs,h1,_⟩:=h;exact World.ownsRow.lt h1
theorem cy.ex {ae:List (List B8)} {T:Nat→Prop} (h:cy base w v n ae Z) (hx:Ex T w w') (hT:∀ b,T b→b<w.heap.size→Z b) (hv:∀ k,v.ownBlock=some k→¬T k):cy base w' v n ae Z:=by
 obtain⟨vs,h1,h2⟩:=h;refine⟨vs,⟨h1.1,?_⟩,fun i l hl=>?_⟩
 ·rcases h1.2 with h3|⟨g,cap,cur,rfl,hb,hg,hr⟩
  ·exact .inl h3
  ·exact .inr ⟨g,cap,cur,rfl,hb,(hx.block g (Array.getElem?_eq_some_iff.1 hg).1 (hv g rfl)).trans hg,hr⟩
 ·obtain⟨a,c,e1,e2,e3,e4⟩:=h2 i l hl
  exact⟨a,c,e1,⟨e2.1,e2.2.ext hx (fun _ p hp ht=>(e4 p hp).2.2.1 (hT _ ht (e4 p hp).2.1))⟩,e3,fun p hp=>⟨(e4 p hp).1,Fz (e4 p hp).2.1 hx.size,(e4 p hp).2.2⟩⟩
theorem cy.later {ae:List (List B8)} (h:cy base w v n ae Z) (hb:Below w.heap.size w w'):cy base w' v n ae Z:=h.ex (T:=fun _=>False) (Ex.below hb) (fun _ hh=>hh.elim) (fun _ _ hh=>hh)
theorem cy.wd {ae:List (List B8)} {Z':Nat→Prop} (h:cy base w v n ae Z) (hz:∀ b,b<w.heap.size→Z' b→Z b):cy base w v n ae Z':=by
 obtain⟨vs,h1,h2⟩:=h;refine⟨vs,h1,fun i l hl=>?_⟩;obtain⟨a,c,e1,e2,e3,e4⟩:=h2 i l hl;exact⟨a,c,e1,e2,e3,fun p hp=>⟨(e4 p hp).1,(e4 p hp).2.1,fun hh=>(e4 p hp).2.2.1 (hz _ (e4 p hp).2.1 hh),(e4 p hp).2.2.2⟩⟩
theorem cy.len {ae:List (List B8)} (h:cy base w v n ae Z):∃ a c,v=.slice a ae.length c∧ae.length≤c:=by
 obtain⟨vs,h1,_⟩:=h;rcases h1.2 with ⟨rfl,h0⟩|⟨g,cap,cur,rfl,_,_,hc,_⟩
 ·exact⟨none,0,by rw[h0],by omega⟩
 ·exact⟨_,cap,rfl,hc⟩
theorem cy.at_ {ae:List (List B8)} (h:cy base w v n ae Z) {i:Nat} {l:List B8} (hl:ae[i]?=some l):∃ g cap a c,v=.slice (some ⟨g,0,none⟩) ae.length cap∧g<w.heap.size∧w.cell? ⟨g,i,none⟩=some (.slice a n c)∧BL w a n l∧n≤c:=by
 obtain⟨vs,h1,h2⟩:=h;obtain⟨a,c,e1,e2,e3,e4⟩:=h2 i l hl;have hil:=(FE.1 hl).1;rcases h1.2 with ⟨_,h0⟩|⟨g,cap,cur,rfl,_,hg,hc,_,_,ht⟩
 ·omega
 ·have hb:Bx w g cur 26:=hg
  refine⟨g,cap,a,c,rfl,hb.lt,?_,e2,e3⟩;rw[hb.cell i];rw[←ht,List.getElem?_take_of_lt (by omega),Array.getElem?_toList] at e1;exact e1
theorem oU (ty:TypeId) (base:Nat) (v:Value) (n:Nat) (ae:List (List B8)) (Z:Nat→Prop) (h:cy base w v n ae Z) (h0:Nat) (a:Option Addr) (c:Nat) (l:List B8) (hB:Bx w h0 #[.slice a n c] 26) (hl:BL w a n l) (hc:n≤c) (ha:∀ p,a=some p→base≤p.block∧p.block<w.heap.size∧¬Z p.block∧v.ownBlock≠some p.block) (hlen:ae.length≤1000) (hbase:base≤w.heap.size) :
 ∃ a' n' c' w',(Builtin.append_ #[42,42] ty #[v,.slice (some ⟨h0,0,none⟩) 1 1]).run Tryz.prog w=.ok (.slice a' n' c') w'∧cy base w' (.slice a' n' c') n (ae++[l]) Z∧w.grownBy w' v.ownBlock∧(Value.ownBlock (.slice a' n' c')=v.ownBlock∨Value.ownBlock (.slice a' n' c')=some w.heap.size):=by
 obtain⟨vs,h1,h2⟩:=h;obtain⟨i0,hi0,hz0,hz1,hz2⟩:=info_parts Tryz.info26s;obtain⟨v',w',hr,hown',hg,_,hat⟩:=run_append_own_at (P:=Tryz.prog) w base 42 ty 26 i0 _ 1 24 Tryz.underlying42 hi0 hz0 hz1 hz2 rfl (by decide) v ae.length vs h1 ⟨h0,0,none⟩ 1 1 [.slice a n c] rfl (fun j u hj=>by
  rw[Addr.add_lit,Nat.zero_add,hB.cell j];simpa using hj) (by simp[Value.oneCell']) (by rw[aC];omega) (by omega) hbase
 have hvne:∀ (p:Addr),p.block<w.heap.size→v.ownBlock≠some p.block→v'.ownBlock≠some p.block:=by
  intro p hlt hne e;rcases hat with h|h
  ·exact hne (h.symm.trans e)
  ·rw[h] at e
   have:=FC e;omega
 have key:∀ {a:Option Addr} {l:List B8},BL w a n l→(∀ p,a=some p→base≤p.block∧p.block<w.heap.size∧¬Z p.block∧v.ownBlock≠some p.block)→BL w' a n l∧∀ p,a=some p→base≤p.block∧p.block<w'.heap.size∧¬Z p.block∧v'.ownBlock≠some p.block :=
  fun hb hp=>⟨⟨hb.1,hb.2.grownBy hg (fun _ p hpa=>(hp p hpa).2.2.2)⟩,fun p hpa=>⟨(hp p hpa).1,Fz (hp p hpa).2.1 hg.size,(hp p hpa).2.2.1,hvne p (hp p hpa).2.1 (hp p hpa).2.2.2⟩⟩
 have hO:cy base w' v' n (ae++[l]) Z:=by
  refine⟨vs++[.slice a n c],by rw[Fy];exact hown',fun i l' hl'=>?_⟩;have hvl:vs.length=ae.length:=by have:=h1.1;omega
  by_cases hi:i<ae.length
  ·rw[FK hi] at hl'
   obtain⟨a1,c1,e1,e2,e3,e4⟩:=h2 i l' hl';have g1:=key e2 e4;exact⟨a1,c1,by rw[FK (by omega)];exact e1,g1.1,e3,g1.2⟩
  ·rw[FJ (by omega)] at hl'
   match e:i-ae.length with
   | 0 =>
    rw[e] at hl';simp at hl';subst hl';have g1:=key hl ha;exact⟨a,c,by rw[FJ (by omega),hvl,e];rfl,g1.1,hc,g1.2⟩
   | j + 1 =>
    rw[e] at hl';simp at hl'
 obtain⟨a',c',e',_⟩:=hO.len;subst e';exact⟨_,_,_,w',hr,hO,hg,hat⟩
theorem jx {ops:Array Oper} {o:Oper} {a:Act} {K:Act→World→Prop} {Q:Exit→Act→World→Prop} {E:Prop} (hgd:o.guard=none) (s y:Operand)
 (ho:o.op=Op.call {callee:=Callee.builtin Builtin.append,args:=#[s,y],argTypes:=#[42,42]}) (base:Nat) {ae:List (List B8)} (hs:a.eval s=v) (hown:cy base w v n ae Z) (h0:Nat) {ad:Option Addr} {l:List B8}
 (hy:a.eval y=.slice (some ⟨h0,0,none⟩) 1 1) (hB:Bx w h0 #[.slice ad n c] 26) (hl:BL w ad n l) (hc:n≤c) (ha:∀ p,ad=some p→base≤p.block∧p.block<w.heap.size∧¬Z p.block∧v.ownBlock≠some p.block) (hlen:ae.length≤1000) (hbase:base≤w.heap.size)
 (hK:∀ a' n' c' w',Hid (cy base w' (.slice a' n' c') n (ae++[l]) Z)→Hid (w.grownBy w' v.ownBlock)→Hid (Value.ownBlock (.slice a' n' c')=v.ownBlock∨Value.ownBlock (.slice a' n' c')=some w.heap.size)→K (a.put o.dst (.slice a' n' c')) w') :
 if Region.wanted o (yielded ops a.tmps)=true then Oper.wp Tryz.prog o a w K Q else E:=by
 have hw:Region.wanted o (yielded ops a.tmps)=true:=by simp[Region.wanted,hgd]
 rw[if_pos hw];subst hs;obtain⟨a',n',c',w',hr,h1,h2,h3⟩:=oU o.type base (a.eval s) n ae Z hown h0 ad c l hB hl hc ha hlen hbase;unfold Oper.wp execOp;simp only[ho,resolve,invoke,builtin,Sem.run_bind,Sem.run_pure,Result.andThen_ok,List.map_toArray,List.map_cons,List.map_nil,hy,hr];exact hK _ _ _ _ h1 h2 h3
structure ClX (base:Nat) (w:World) (K n:Nat) (ae:List (List B8)) (now:List B8) (g c:Nat) (v:Value):Prop where
 bx:Bx w K #[.slice (some ⟨g,0,none⟩) n c,v] 44
 kb:base≤K
 nw:au w base (.slice (some ⟨g,0,none⟩) n c) now
 sn:cy base w v n ae (fun b=>b=K∨b=g)
 nl:now.length=n
 bs:base≤w.heap.size
def ClW (base:Nat) (w:World) (K n:Nat) (ae:List (List B8)) (now:List B8):Prop:=∃ g c v,ClX base w K n ae now g c v
theorem ClX.later {base:Nat} {w w':World} {K n:Nat} {ae:List (List B8)} {now:List B8} {g c:Nat} {v:Value} (h:ClX base w K n ae now g c v) (hb:Below w.heap.size w w'):ClX base w' K n ae now g c v :=
 ⟨Bx.later h.bx hb (Bx.lt h.bx),h.kb,bm h.nw hb,h.sn.later hb,h.nl,FM h.bs hb.size⟩
theorem ClW.later {base:Nat} {w w':World} {K n:Nat} {ae:List (List B8)} {now:List B8} (h:ClW base w K n ae now) (hb:Below w.heap.size w w'):ClW base w' K n ae now:=by
 obtain⟨g,c,v,X⟩:=h;exact⟨g,c,v,X.later hb⟩
theorem ClX.ng {K:Nat} {ae:List (List B8)} {now:List B8} {g:Nat} (h:ClX base w K n ae now g c v):g≠K∧base≤g∧g<w.heap.size∧(∀ k,v.ownBlock=some k→k≠K∧k≠g)∧∀ o,w.frozen? ⟨g,o,none⟩=false:=by
 have h1:w.heap[K]?=some (.cells _ 44 (0,0)):=h.bx;rcases h.nw.2 with ⟨hv,_⟩|⟨g',cap',cur,hv,hb,hh,_⟩
 ·cases hv
 ·simp only[Value.slice.injEq,Option.some.injEq,Addr.mk.injEq,and_true] at hv
  obtain⟨rfl,_,rfl⟩:=hv;have hbx:Bx w g cur 25:=hh;refine⟨fun e=>?_,hb,hbx.lt,fun k hk=>?_,hbx.frozen⟩
  ·subst e
   rw[h1] at hh;simp at hh
  ·obtain⟨vs,h2,_⟩:=h.sn
   rcases h2.2 with ⟨e,_⟩|⟨g2,cap2,cur2,e,_,hg2,_⟩
   ·rw[e] at hk
    cases hk
   ·rw[e] at hk
    cases hk
    constructor
    ·rintro rfl
     rw[h1] at hg2;simp at hg2
    ·rintro rfl
     rw[hh] at hg2;simp at hg2
theorem ir (base:Nat) (K n:Nat) (ae:List (List B8)) (now:List B8) (w:World) (h:ClW base w K n ae now) (hv:Nat) (hl:ae.length=hv+1) (hh:hv≤1000000) :
 Calls Tryz.prog 10 #[.pointer (some ⟨K,0,none⟩)] w fun e w'=>e=.returned (.int .i64 (hv:Int))∧w'=w:=by
 obtain⟨g,c,v,X⟩:=h;obtain⟨a,c',hv',hc'⟩:=X.sn.len;subst hv';have x1:=Bx.cell X.bx 1;simp only[Fx,Fw,Fv] at x1;rw[hl] at x1;clear X hc' hl;go_enter Tryz.func10,Tryz.ntmps10;go_wp2_with fail;exact bodyPost_ret (v:=.int .i64 (hv:Int)) (by simp[results,Tryz.results10,go_sem]) rfl ⟨rfl,rfl⟩
end
theorem lJ (n:Nat) (w:World) (h1:1≤n) (h2:n≤32) :
 Calls Tryz.prog 8 #[.int .i64 (n:Int)] w fun e w'=>∃ K,e=.returned (.pointer (some ⟨K,0,none⟩))∧Hid (ClW w.heap.size w' K n [List.replicate n zB] (List.replicate n zB))∧Hid (Below w.heap.size w w'):=by
 obtain⟨C,hC,HC0⟩:=fJ n (by omega);have HC:=aa HC0.o;clear HC0;obtain⟨W1,hW1⟩:∃ W1:World,Hid (W1=w.alloc (.cells C 25)):=⟨_,rfl⟩
 obtain⟨W2,hW2⟩:∃ W2:World,Hid (W2=W1.alloc (.cells #[.slice (some ⟨w.heap.size,0,none⟩) n n,.slice none 0 0] 44)):=⟨_,rfl⟩
 obtain⟨K,hK⟩:∃ K:Nat,Hid (K=w.heap.size+1):=⟨_,rfl⟩
 have D1:=beA hW1;have O1:=aa (show au W1 w.heap.size (.slice (some ⟨w.heap.size,0,none⟩) n n) (List.replicate n zB) by rw[hW1.o];exact HC.o w _ (FG _));have D2:=beA hW2;have X2:=aa (show Bx W2 K #[.slice (some ⟨w.heap.size,0,none⟩) n n,.slice none 0 0] 44 by
  rw[hW2.o,hK.out,show w.heap.size+1=W1.heap.size by rw[hW1.o];simp];exact Bx.new W1 _ _)
 have hs1:w.heap.size<W1.heap.size:=by rw[hW1.o];simp
 obtain⟨x0,x1⟩:=X2.o.two;have xf:=X2.o.frozen;have hKW:K<W2.heap.size:=X2.o.lt;go_enter Tryz.func8,Tryz.ntmps8;go_upto_region 2 with fail
 rw[←hW1.o,←hW2.o,←hK.out];obtain⟨W4,hW4⟩:∃ W4:World,Hid (W4=((W2.alloc (.cells C 25)).alloc (.cells #[.slice (some ⟨W2.heap.size,0,none⟩) n n] 26)).drew):=⟨_,rfl⟩
 have D4:=aa (show Below W2.heap.size W2 W4 by rw[hW4.o];exact((af _ _).alloc (by simp) _).drew);have B4:=aa (show Bx W4 (W2.heap.size+1) #[.slice (some ⟨W2.heap.size,0,none⟩) n n] 26 by
  rw[hW4.o];have h9:=Bx.di (W2.alloc (.cells C 25)) #[.slice (some ⟨W2.heap.size,0,none⟩) n n] 26;rw[World.size_alloc] at h9;exact h9)
 have L4:=aa (show BL W4 (some ⟨W2.heap.size,0,none⟩) n (List.replicate n zB) by
  rw[hW4.o];have h9:=HC.o W2 0 (Nat.zero_le _);obtain⟨a9,c9,hv9,_,hr9,_⟩:=aB h9;injection hv9 with e1 e2 _
  subst e1;exact⟨by simp,(by rw[List.length_replicate] at hr9;exact hr9.later ((af _ _).drew))⟩)
 have X4:=aa (Bx.later X2.o D4.o X2.o.lt);have hs4:W2.heap.size+1<W4.heap.size:=by rw[hW4.o];simp
 have hs2:W1.heap.size<W2.heap.size:=by rw[hW2.o];simp
 have hKw:w.heap.size<K:=by rw[hK.out];omega
 go_region_law (first
  |(rw[←hW4.o];refine jx (w:=W4) rfl (.tmp 12) (.tmp 15) rfl w.heap.size (v:=.slice none 0 0) (n:=n) (ae:=[]) (Z:=fun b=>b=K∨b=w.heap.size) rfl (cy.nil _ _ _ _) (W2.heap.size+1) (ad:=some ⟨W2.heap.size,0,none⟩) (c:=n) (l:=List.replicate n zB) rfl B4.o L4.o (FG _) ?zz4 (by simp) ?zz5 ?_;(case zz4=>(intro q hq;cases hq;exact⟨by show w.heap.size≤W2.heap.size;omega,by show W2.heap.size<W4.heap.size;omega,fun e=>by(have e':W2.heap.size=K∨W2.heap.size=w.heap.size:=e;omega),by intro e;cases e⟩));(case zz5=>omega);intro va vn vc w5 h1 h2 h3;have X5:=aa (Bx.grow X4.o h2.o (by intro e;cases e));obtain⟨y0,y1⟩:=X5.o.two;have yf:=X5.o.frozen))
 all_goals
  obtain⟨w6,hw6⟩:∃ w6:World,Hid (w6=w5.setCell ⟨K,1,none⟩ (.slice va vn vc)):=⟨_,rfl⟩
  have X6:=aa (show Bx w6 K #[.slice (some ⟨w.heap.size,0,none⟩) n n,.slice va vn vc] 44 by rw[hw6.o];exact X5.o.set 1 _);have G6:=aa (show Ex (fun b=>b=K) w5 w6 by rw[hw6.o];exact Ex.one (al (ar _ _) _ _));have E5:=aa (show Below w.heap.size w w5 from(D1.o.trans ((D2.o.trans (D4.o.mono D2.o.size)).mono D1.o.size)).trans ⟨h2.o.os,h2.o.tape,h2.o.output,h2.o.size,fun k hk=>h2.o.block k (by omega) (by intro e;cases e)⟩);have O5:=aa (show au w5 w.heap.size (.slice (some ⟨w.heap.size,0,none⟩) n n) (List.replicate n zB) from World.ownsRow.kept (bm O1.o (D2.o.trans (D4.o.mono D2.o.size))) h2.o (.inr (by intro e;cases e)));rw[←hw6.o];clear x0 x1 xf y0 y1 yf;go_wp2_with fail;refine bodyPost_ret (v:=.pointer (some ⟨K,0,none⟩)) (by simp[results,Tryz.results8,go_sem]) rfl ⟨K,rfl,aa ⟨w.heap.size,n,.slice va vn vc,X6.o,by omega,?_,?_,by simp,?_⟩,aa ?_⟩
  ·exact World.ownsRow.kept O5.o ⟨G6.o.os,G6.o.tape,G6.o.output,G6.o.size,fun k hk hn=>G6.o.block k hk (fun e=>hn (by rw[e]))⟩ (.inr (fun e=>by have h9:=FC e;simp at h9;omega))
  ·refine h1.o.ex G6.o (fun b hb _=>.inl hb) (fun k hk e=>?_)
   have h9:=h3.o;rw[hk] at h9;rcases h9 with h9|h9
   ·cases h9
   ·have h8:=FC h9
    omega
  ·exact FM E5.o.size G6.o.size
  ·exact E5.o.trans ⟨G6.o.os,G6.o.tape,G6.o.output,G6.o.size,fun k hk=>G6.o.block k (by have:=E5.o.size;omega) (by omega)⟩
section
variable {W:World} {K n g c h0 h1:Nat} {kd at_ fr:Int} {u1 u2 u6 u7 u8 u9 u10 u11 u12 u13 u14 u15 u16 u17 u18 u19 u20 u21 u22 u23 u24 u25 u26 u27 u28 u29 u30 u31 u32 u33 u34 u35 u36 u37 u38 u39 u40 u41 u42 u43 u44 u45 u46 u47 u48 u49 u50 u51 u52 u53 u54 u55 u56 u57 u58 u59 u60 u61 u62 u63 u64 u65 u66 u67 u68 u69 u70 u71 u72 u73 u74 u75 u76 u77 u78 u79 u80 u81 u82 u83 u84 u85 u86 u87 u88 u89 u90 u91 u92 u93 u94 u95 u96 u97 u98 u99 u100 u101 u102 u103 u104 u105 u106 u107 v:Value}
theorem CN {base:Nat} {V0:World} {ae:List (List B8)} {now:List B8} {va:Option Addr} {vl vc:Nat} (HX:Hid (ClX base W K n ae now g c (.slice va vl vc))) (_hn1:1≤n) (_hn2:n≤32) {d:B8} (B0:Hid (Bx W h0 #[.int .i64 kd,.int .i64 at_,.int .i64 fr,.int .u8 d.z0,.int .u8 d.z1,.int .u8 d.z2,.int .u8 d.z3,.int .u8 d.z4,.int .u8 d.z5,.int .u8 d.z6,.int .u8 d.z7] 39)) (B1:Hid (Bx W h1 #[.int .u8 0,.int .u8 0,.int .u8 0,.int .u8 0,.int .u8 0,.int .u8 0,.int .u8 0,.int .u8 0] 25)) (DV:Hid (Below base V0 W)) (NE:Hid (h0≠g∧h0≠K∧h1≠g∧h1≠K∧h0≠h1∧base≤h1∧(∀ k,Value.ownBlock (.slice va vl vc)=some k→k≠h0∧k≠h1)∧h1<W.heap.size)) (hk:Hid (kd<0∨11≤kd)) :
 aA Tryz.f9 (fun e w'=>e=.returned (.tuple #[.int .i64 3,.agg #[.int .u8 0,.int .u8 0,.int .u8 0,.int .u8 0,.int .u8 0,.int .u8 0,.int .u8 0,.int .u8 0]])∧Hid (ClW base w' K n ae now)∧Hid (Below base V0 w')) 1 ⟨#[.pointer (some ⟨K,0,none⟩),u1,u2,.pointer (some ⟨h0,0,none⟩),.int .i64 0,.pointer (some ⟨h1,0,none⟩),u6,u7,u8,u9,u10,u11,u12,u13,u14,u15,u16,u17,u18,u19,u20,u21,u22,u23,u24,u25,u26,u27,u28,u29,u30,u31,u32,u33,u34,u35,u36,u37,u38,u39,u40,u41,u42,u43,u44,u45,u46,u47,u48,u49,u50,u51,u52,u53,u54,u55,u56,u57,u58,u59,u60,u61,u62,u63,u64,u65,u66,u67,u68,u69,u70,u71,u72,u73,u74,u75,u76,u77,u78,u79,u80,u81,u82,u83,u84,u85,u86,u87,u88,u89,u90,u91,u92,u93,u94,u95,u96,u97,u98,u99,u100,u101,u102,u103,u104,u105,u106,u107],[]⟩ W:=by
 have HID:=aa (gK (x:=zB) B1.o);obtain⟨r0,r1,r2,r3,r4,r5,r6,r7,rf⟩:=iW B1.o;have z0:=B0.o.cell 0;have z1:=B0.o.cell 1;simp only[Fx,Fw,Fv] at z0 z1;obtain⟨x0,x1⟩:=Bx.two HX.o.bx;have hne:=NE.o.1;clear hne x0 x1;refine aj rfl ?_;intro K9 hK9;rcases hk.o with hk1|hk1
 ·go_wp2_with fail
  rw[show(((((((W.setCell ⟨h1,0,none⟩ (.int .u8 0)).setCell ⟨h1,1,none⟩ (.int .u8 0)).setCell ⟨h1,2,none⟩ (.int .u8 0)).setCell ⟨h1,3,none⟩ (.int .u8 0)).setCell ⟨h1,4,none⟩ (.int .u8 0)).setCell ⟨h1,5,none⟩ (.int .u8 0)).setCell ⟨h1,6,none⟩ (.int .u8 0)).setCell ⟨h1,7,none⟩ (.int .u8 0)=W from HID.o];exact bodyPost_ret (v:=.tuple #[.int .i64 3,.agg #[.int .u8 0,.int .u8 0,.int .u8 0,.int .u8 0,.int .u8 0,.int .u8 0,.int .u8 0,.int .u8 0]]) (by simp[results,Tryz.results9,go_sem,r0,r1,r2,r3,r4,r5,r6,r7]) rfl ⟨rfl,aa ⟨g,c,_,HX.o⟩,DV⟩
 ·have hk2:¬kd<0:=by omega
  go_wp2_with fail;rw[show(((((((W.setCell ⟨h1,0,none⟩ (.int .u8 0)).setCell ⟨h1,1,none⟩ (.int .u8 0)).setCell ⟨h1,2,none⟩ (.int .u8 0)).setCell ⟨h1,3,none⟩ (.int .u8 0)).setCell ⟨h1,4,none⟩ (.int .u8 0)).setCell ⟨h1,5,none⟩ (.int .u8 0)).setCell ⟨h1,6,none⟩ (.int .u8 0)).setCell ⟨h1,7,none⟩ (.int .u8 0)=W from HID.o];exact bodyPost_ret (v:=.tuple #[.int .i64 3,.agg #[.int .u8 0,.int .u8 0,.int .u8 0,.int .u8 0,.int .u8 0,.int .u8 0,.int .u8 0,.int .u8 0]]) (by simp[results,Tryz.results9,go_sem,r0,r1,r2,r3,r4,r5,r6,r7]) rfl ⟨rfl,aa ⟨g,c,_,HX.o⟩,DV⟩
theorem vy {Q:Ending→World→Prop} (HX:Hid (Bx W K #[.slice (some ⟨g,0,none⟩) n c,v] 44)) {d:B8} (B0:Hid (Bx W h0 #[.int .i64 kd,.int .i64 at_,.int .i64 fr,.int .u8 d.z0,.int .u8 d.z1,.int .u8 d.z2,.int .u8 d.z3,.int .u8 d.z4,.int .u8 d.z5,.int .u8 d.z6,.int .u8 d.z7] 39)) (hk:Hid (0≤kd∧kd≤10∧¬kd=0∧¬kd=1∧¬kd=2)) (h3:Hid (∀ {v1 v2 v6 v7 v8 v9 v10 v11 v12 v13 v14 v15 v16 v17 v18 v19 v20 v21 v22 v23 v24 v25 v26 v27 v28 v29 v30 v31 v32 v33 v34 v35 v36 v37 v38 v39 v40 v41 v42 v43 v44 v45 v46 v47 v48 v49 v50 v51 v52 v53 v54 v55 v56 v57 v58 v59 v60 v61 v62 v63 v64 v65 v66 v67 v68 v69 v70 v71 v72 v73 v74 v75 v76 v77 v78 v79 v80 v81 v82 v83 v84 v85 v86 v87 v88 v89 v90 v91 v92 v93 v94 v95 v96 v97 v98 v99 v100 v101 v102 v103 v104 v105 v106 v107:Value},aA Tryz.f9 Q 3 ⟨#[.pointer (some ⟨K,0,none⟩),v1,v2,.pointer (some ⟨h0,0,none⟩),.int .i64 0,.pointer (some ⟨h1,0,none⟩),v6,v7,v8,v9,v10,v11,v12,v13,v14,v15,v16,v17,v18,v19,v20,v21,v22,v23,v24,v25,v26,v27,v28,v29,v30,v31,v32,v33,v34,v35,v36,v37,v38,v39,v40,v41,v42,v43,v44,v45,v46,v47,v48,v49,v50,v51,v52,v53,v54,v55,v56,v57,v58,v59,v60,v61,v62,v63,v64,v65,v66,v67,v68,v69,v70,v71,v72,v73,v74,v75,v76,v77,v78,v79,v80,v81,v82,v83,v84,v85,v86,v87,v88,v89,v90,v91,v92,v93,v94,v95,v96,v97,v98,v99,v100,v101,v102,v103,v104,v105,v106,v107],[]⟩ W.drew)) :
 aA Tryz.f9 Q 1 ⟨#[.pointer (some ⟨K,0,none⟩),u1,u2,.pointer (some ⟨h0,0,none⟩),.int .i64 0,.pointer (some ⟨h1,0,none⟩),u6,u7,u8,u9,u10,u11,u12,u13,u14,u15,u16,u17,u18,u19,u20,u21,u22,u23,u24,u25,u26,u27,u28,u29,u30,u31,u32,u33,u34,u35,u36,u37,u38,u39,u40,u41,u42,u43,u44,u45,u46,u47,u48,u49,u50,u51,u52,u53,u54,u55,u56,u57,u58,u59,u60,u61,u62,u63,u64,u65,u66,u67,u68,u69,u70,u71,u72,u73,u74,u75,u76,u77,u78,u79,u80,u81,u82,u83,u84,u85,u86,u87,u88,u89,u90,u91,u92,u93,u94,u95,u96,u97,u98,u99,u100,u101,u102,u103,u104,u105,u106,u107],[]⟩ W:=by
 have z0:=B0.o.cell 0;have z1:=B0.o.cell 1;simp only[Fx,Fw,Fv] at z0 z1;obtain⟨x0,x1⟩:=Bx.two HX.o;obtain⟨k0,k1,q0,q1,q2⟩:=hk.o;have k0':¬kd<0:=by omega
 have k1':¬11≤kd:=by omega
 have e0:(kd==0)=false:=by simpa using q0
 have e1:(kd==1)=false:=by simpa using q1
 have e2:(kd==2)=false:=by simpa using q2
 have f0:decide (kd=0)=false:=by simpa using q0
 have f1:decide (kd=1)=false:=by simpa using q1
 have f2:decide (kd=2)=false:=by simpa using q2
 refine aj rfl ?_;intro K9 hK9;go_wp2_with fail;refine Met.intro (aj rfl ?_);intro K8 hK8;go_wp2_with fail;go_region
 go_wp2_with fail;exact Met.intro h3.o
theorem Ea {Q:Ending→World→Prop} (HX:Hid (Bx W K #[.slice (some ⟨g,0,none⟩) n c,v] 44)) {d:B8} (B0:Hid (Bx W h0 #[.int .i64 kd,.int .i64 at_,.int .i64 fr,.int .u8 d.z0,.int .u8 d.z1,.int .u8 d.z2,.int .u8 d.z3,.int .u8 d.z4,.int .u8 d.z5,.int .u8 d.z6,.int .u8 d.z7] 39)) (hk:kd=0) (hr:Hid (0≤at_∧at_<(n:Int))) (h3:Hid (∀ {v1 v2 v6 v7 v8 v9 v10 v11 v12 v13 v14 v15 v16 v17 v18 v19 v20 v21 v22 v23 v24 v25 v26 v27 v28 v29 v30 v31 v32 v33 v34 v35 v36 v37 v38 v39 v40 v41 v42 v43 v44 v45 v46 v47 v48 v49 v50 v51 v52 v53 v54 v55 v56 v57 v58 v59 v60 v61 v62 v63 v64 v65 v66 v67 v68 v69 v70 v71 v72 v73 v74 v75 v76 v77 v78 v79 v80 v81 v82 v83 v84 v85 v86 v87 v88 v89 v90 v91 v92 v93 v94 v95 v96 v97 v98 v99 v100 v101 v102 v103 v104 v105 v106 v107:Value},aA Tryz.f9 Q 3 ⟨#[.pointer (some ⟨K,0,none⟩),v1,v2,.pointer (some ⟨h0,0,none⟩),.int .i64 0,.pointer (some ⟨h1,0,none⟩),v6,v7,v8,v9,v10,v11,v12,v13,v14,v15,v16,v17,v18,v19,v20,v21,v22,v23,v24,v25,v26,v27,v28,v29,v30,v31,v32,v33,v34,v35,v36,v37,v38,v39,v40,v41,v42,v43,v44,v45,v46,v47,v48,v49,v50,v51,v52,v53,v54,v55,v56,v57,v58,v59,v60,v61,v62,v63,v64,v65,v66,v67,v68,v69,v70,v71,v72,v73,v74,v75,v76,v77,v78,v79,v80,v81,v82,v83,v84,v85,v86,v87,v88,v89,v90,v91,v92,v93,v94,v95,v96,v97,v98,v99,v100,v101,v102,v103,v104,v105,v106,v107],[]⟩ W.drew)) :
 aA Tryz.f9 Q 1 ⟨#[.pointer (some ⟨K,0,none⟩),u1,u2,.pointer (some ⟨h0,0,none⟩),.int .i64 0,.pointer (some ⟨h1,0,none⟩),u6,u7,u8,u9,u10,u11,u12,u13,u14,u15,u16,u17,u18,u19,u20,u21,u22,u23,u24,u25,u26,u27,u28,u29,u30,u31,u32,u33,u34,u35,u36,u37,u38,u39,u40,u41,u42,u43,u44,u45,u46,u47,u48,u49,u50,u51,u52,u53,u54,u55,u56,u57,u58,u59,u60,u61,u62,u63,u64,u65,u66,u67,u68,u69,u70,u71,u72,u73,u74,u75,u76,u77,u78,u79,u80,u81,u82,u83,u84,u85,u86,u87,u88,u89,u90,u91,u92,u93,u94,u95,u96,u97,u98,u99,u100,u101,u102,u103,u104,u105,u106,u107],[]⟩ W:=by
 subst hk;have z0:=B0.o.cell 0;have z1:=B0.o.cell 1;simp only[Fx,Fw,Fv] at z0 z1;obtain⟨x0,x1⟩:=Bx.two HX.o;obtain⟨a0,a1⟩:=hr.o;have a0':¬at_<0:=by omega
 have a1':¬(n:Int)≤at_:=by omega
 have f0:decide (at_<0)=false:=by simpa using a0'
 have f1:decide ((n:Int)≤at_)=false:=by simpa using a1'
 refine aj rfl ?_;intro K9 hK9;go_wp2_with fail;refine Met.intro (aj rfl ?_);intro K8 hK8;go_wp2_with fail;go_region
 go_wp2_with fail;exact Met.intro h3.o
theorem Eb {Q:Ending→World→Prop} (HX:Hid (Bx W K #[.slice (some ⟨g,0,none⟩) n c,v] 44)) {d:B8} (B0:Hid (Bx W h0 #[.int .i64 kd,.int .i64 at_,.int .i64 fr,.int .u8 d.z0,.int .u8 d.z1,.int .u8 d.z2,.int .u8 d.z3,.int .u8 d.z4,.int .u8 d.z5,.int .u8 d.z6,.int .u8 d.z7] 39)) (hk:kd=1) (hr:Hid (0≤at_∧at_<(n:Int))) (h3:Hid (∀ {v1 v2 v6 v7 v8 v9 v10 v11 v12 v13 v14 v15 v16 v17 v18 v19 v20 v21 v22 v23 v24 v25 v26 v27 v28 v29 v30 v31 v32 v33 v34 v35 v36 v37 v38 v39 v40 v41 v42 v43 v44 v45 v46 v47 v48 v49 v50 v51 v52 v53 v54 v55 v56 v57 v58 v59 v60 v61 v62 v63 v64 v65 v66 v67 v68 v69 v70 v71 v72 v73 v74 v75 v76 v77 v78 v79 v80 v81 v82 v83 v84 v85 v86 v87 v88 v89 v90 v91 v92 v93 v94 v95 v96 v97 v98 v99 v100 v101 v102 v103 v104 v105 v106 v107:Value},aA Tryz.f9 Q 3 ⟨#[.pointer (some ⟨K,0,none⟩),v1,v2,.pointer (some ⟨h0,0,none⟩),.int .i64 0,.pointer (some ⟨h1,0,none⟩),v6,v7,v8,v9,v10,v11,v12,v13,v14,v15,v16,v17,v18,v19,v20,v21,v22,v23,v24,v25,v26,v27,v28,v29,v30,v31,v32,v33,v34,v35,v36,v37,v38,v39,v40,v41,v42,v43,v44,v45,v46,v47,v48,v49,v50,v51,v52,v53,v54,v55,v56,v57,v58,v59,v60,v61,v62,v63,v64,v65,v66,v67,v68,v69,v70,v71,v72,v73,v74,v75,v76,v77,v78,v79,v80,v81,v82,v83,v84,v85,v86,v87,v88,v89,v90,v91,v92,v93,v94,v95,v96,v97,v98,v99,v100,v101,v102,v103,v104,v105,v106,v107],[]⟩ W.drew)) :
 aA Tryz.f9 Q 1 ⟨#[.pointer (some ⟨K,0,none⟩),u1,u2,.pointer (some ⟨h0,0,none⟩),.int .i64 0,.pointer (some ⟨h1,0,none⟩),u6,u7,u8,u9,u10,u11,u12,u13,u14,u15,u16,u17,u18,u19,u20,u21,u22,u23,u24,u25,u26,u27,u28,u29,u30,u31,u32,u33,u34,u35,u36,u37,u38,u39,u40,u41,u42,u43,u44,u45,u46,u47,u48,u49,u50,u51,u52,u53,u54,u55,u56,u57,u58,u59,u60,u61,u62,u63,u64,u65,u66,u67,u68,u69,u70,u71,u72,u73,u74,u75,u76,u77,u78,u79,u80,u81,u82,u83,u84,u85,u86,u87,u88,u89,u90,u91,u92,u93,u94,u95,u96,u97,u98,u99,u100,u101,u102,u103,u104,u105,u106,u107],[]⟩ W:=by
 subst hk;have z0:=B0.o.cell 0;have z1:=B0.o.cell 1;simp only[Fx,Fw,Fv] at z0 z1;obtain⟨x0,x1⟩:=Bx.two HX.o;obtain⟨a0,a1⟩:=hr.o;have a0':¬at_<0:=by omega
 have a1':¬(n:Int)≤at_:=by omega
 have f0:decide (at_<0)=false:=by simpa using a0'
 have f1:decide ((n:Int)≤at_)=false:=by simpa using a1'
 refine aj rfl ?_;intro K9 hK9;go_wp2_with fail;refine Met.intro (aj rfl ?_);intro K8 hK8;go_wp2_with fail;go_region
 go_wp2_with fail;exact Met.intro h3.o
theorem Ec {Q:Ending→World→Prop} (HX:Hid (Bx W K #[.slice (some ⟨g,0,none⟩) n c,v] 44)) {d:B8} (B0:Hid (Bx W h0 #[.int .i64 kd,.int .i64 at_,.int .i64 fr,.int .u8 d.z0,.int .u8 d.z1,.int .u8 d.z2,.int .u8 d.z3,.int .u8 d.z4,.int .u8 d.z5,.int .u8 d.z6,.int .u8 d.z7] 39)) (hk:kd=2) (hr:Hid (0≤at_∧at_<(n:Int))) (h3:Hid (∀ {v1 v2 v6 v7 v8 v9 v10 v11 v12 v13 v14 v15 v16 v17 v18 v19 v20 v21 v22 v23 v24 v25 v26 v27 v28 v29 v30 v31 v32 v33 v34 v35 v36 v37 v38 v39 v40 v41 v42 v43 v44 v45 v46 v47 v48 v49 v50 v51 v52 v53 v54 v55 v56 v57 v58 v59 v60 v61 v62 v63 v64 v65 v66 v67 v68 v69 v70 v71 v72 v73 v74 v75 v76 v77 v78 v79 v80 v81 v82 v83 v84 v85 v86 v87 v88 v89 v90 v91 v92 v93 v94 v95 v96 v97 v98 v99 v100 v101 v102 v103 v104 v105 v106 v107:Value},aA Tryz.f9 Q 3 ⟨#[.pointer (some ⟨K,0,none⟩),v1,v2,.pointer (some ⟨h0,0,none⟩),.int .i64 0,.pointer (some ⟨h1,0,none⟩),v6,v7,v8,v9,v10,v11,v12,v13,v14,v15,v16,v17,v18,v19,v20,v21,v22,v23,v24,v25,v26,v27,v28,v29,v30,v31,v32,v33,v34,v35,v36,v37,v38,v39,v40,v41,v42,v43,v44,v45,v46,v47,v48,v49,v50,v51,v52,v53,v54,v55,v56,v57,v58,v59,v60,v61,v62,v63,v64,v65,v66,v67,v68,v69,v70,v71,v72,v73,v74,v75,v76,v77,v78,v79,v80,v81,v82,v83,v84,v85,v86,v87,v88,v89,v90,v91,v92,v93,v94,v95,v96,v97,v98,v99,v100,v101,v102,v103,v104,v105,v106,v107],[]⟩ W.drew)) :
 aA Tryz.f9 Q 1 ⟨#[.pointer (some ⟨K,0,none⟩),u1,u2,.pointer (some ⟨h0,0,none⟩),.int .i64 0,.pointer (some ⟨h1,0,none⟩),u6,u7,u8,u9,u10,u11,u12,u13,u14,u15,u16,u17,u18,u19,u20,u21,u22,u23,u24,u25,u26,u27,u28,u29,u30,u31,u32,u33,u34,u35,u36,u37,u38,u39,u40,u41,u42,u43,u44,u45,u46,u47,u48,u49,u50,u51,u52,u53,u54,u55,u56,u57,u58,u59,u60,u61,u62,u63,u64,u65,u66,u67,u68,u69,u70,u71,u72,u73,u74,u75,u76,u77,u78,u79,u80,u81,u82,u83,u84,u85,u86,u87,u88,u89,u90,u91,u92,u93,u94,u95,u96,u97,u98,u99,u100,u101,u102,u103,u104,u105,u106,u107],[]⟩ W:=by
 subst hk;have z0:=B0.o.cell 0;have z1:=B0.o.cell 1;simp only[Fx,Fw,Fv] at z0 z1;obtain⟨x0,x1⟩:=Bx.two HX.o;obtain⟨a0,a1⟩:=hr.o;have a0':¬at_<0:=by omega
 have a1':¬(n:Int)≤at_:=by omega
 have f0:decide (at_<0)=false:=by simpa using a0'
 have f1:decide ((n:Int)≤at_)=false:=by simpa using a1'
 refine aj rfl ?_;intro K9 hK9;go_wp2_with fail;refine Met.intro (aj rfl ?_);intro K8 hK8;go_wp2_with fail;go_region
 go_wp2_with fail;exact Met.intro h3.o
end
section
variable {V V0:World} {h1 base K n g c vl vc h0 j:Nat} {u1 u2 u6 u7 u8 u9 u10 u11 u12 u13 u14 u15 u16 u17 u18 u19 u20 u21 u22 u23 u24 u25 u26 u27 u28 u29 u30 u31 u32 u33 u34 u35 u36 u37 u38 u39 u40 u41 u42 u43 u44 u45 u46 u47 u48 u49 u50 u51 u52 u53 u54 u55 u56 u57 u58 u59 u60 u61 u62 u63 u64 u65 u66 u67 u68 u69 u70 u71 u72 u73 u74 u75 u76 u77 u78 u79 u80 u81 u82 u83 u84 u85 u86 u87 u88 u89 u90 u91 u92 u93 u94 u95 u96 u97 u98 u99 u100 u101 u102 u103 u104 u105 u106 u107:Value} {va:Option Addr} {kd at_ fr:Int}
theorem jS {Q:Ending→World→Prop} (B1:Hid (Bx V h1 #[.int .u8 0,.int .u8 0,.int .u8 0,.int .u8 0,.int .u8 0,.int .u8 0,.int .u8 0,.int .u8 0] 25)) (hQ:Hid (Q (.returned (.tuple #[.int .i64 0,.agg #[.int .u8 0,.int .u8 0,.int .u8 0,.int .u8 0,.int .u8 0,.int .u8 0,.int .u8 0,.int .u8 0]])) V)) {u0 u3 u4:Value} :
 aA Tryz.f9 Q 4 ⟨#[u0,u1,u2,u3,u4,.pointer (some ⟨h1,0,none⟩),u6,u7,u8,u9,u10,u11,u12,u13,u14,u15,u16,u17,u18,u19,u20,u21,u22,u23,u24,u25,u26,u27,u28,u29,u30,u31,u32,u33,u34,u35,u36,u37,u38,u39,u40,u41,u42,u43,u44,u45,u46,u47,u48,u49,u50,u51,u52,u53,u54,u55,u56,u57,u58,u59,u60,u61,u62,u63,u64,u65,u66,u67,u68,u69,u70,u71,u72,u73,u74,u75,u76,u77,u78,u79,u80,u81,u82,u83,u84,u85,u86,u87,u88,u89,u90,u91,u92,u93,u94,u95,u96,u97,u98,u99,u100,u101,u102,u103,u104,u105,u106,u107],[]⟩ V:=by
 refine aM (c:=.seq _ .ret) rfl ?_;have HI:=aa (show(((((((V.setCell ⟨h1,0,none⟩ (.int .u8 0)).setCell ⟨h1,1,none⟩ (.int .u8 0)).setCell ⟨h1,2,none⟩ (.int .u8 0)).setCell ⟨h1,3,none⟩ (.int .u8 0)).setCell ⟨h1,4,none⟩ (.int .u8 0)).setCell ⟨h1,5,none⟩ (.int .u8 0)).setCell ⟨h1,6,none⟩ (.int .u8 0)).setCell ⟨h1,7,none⟩ (.int .u8 0)=V from gK (x:=zB) B1.o);obtain⟨r0,r1,r2,r3,r4,r5,r6,r7,rf⟩:=iW B1.o;go_wp2_with fail;rw[HI.o];exact bodyPost_ret (v:=.tuple #[.int .i64 0,.agg #[.int .u8 0,.int .u8 0,.int .u8 0,.int .u8 0,.int .u8 0,.int .u8 0,.int .u8 0,.int .u8 0]]) (by simp[results,Tryz.results9,go_sem,r0,r1,r2,r3,r4,r5,r6,r7]) rfl hQ.o
theorem xO {ae:List (List B8)} {now:List B8} (HX:Hid (ClX base V K n ae now g c (.slice va vl vc))) (hn1:1≤n) (hn2:n≤32) {d:B8} (B0:Hid (Bx V h0 #[.int .i64 kd,.int .i64 at_,.int .i64 fr,.int .u8 d.z0,.int .u8 d.z1,.int .u8 d.z2,.int .u8 d.z3,.int .u8 d.z4,.int .u8 d.z5,.int .u8 d.z6,.int .u8 d.z7] 39)) (B1:Hid (Bx V h1 #[.int .u8 0,.int .u8 0,.int .u8 0,.int .u8 0,.int .u8 0,.int .u8 0,.int .u8 0,.int .u8 0] 25)) (DV:Hid (Below base V0 V)) (NE:Hid (h0≠g∧h0≠K∧h1≠g∧h1≠K∧h0≠h1∧base≤h1∧(∀ k,Value.ownBlock (.slice va vl vc)=some k→k≠h0∧k≠h1)∧base≤V0.heap.size)) (hk:Hid (¬kd=0∧¬kd=1∧¬kd=2∧¬kd=3∧¬kd=8)) :
 aA Tryz.f9 (fun e w'=>e=.returned (.tuple #[.int .i64 0,.agg #[.int .u8 0,.int .u8 0,.int .u8 0,.int .u8 0,.int .u8 0,.int .u8 0,.int .u8 0,.int .u8 0]])∧Hid (ClW base w' K n ae now)∧Hid (Below base V0 w')) 3 ⟨#[.pointer (some ⟨K,0,none⟩),u1,u2,.pointer (some ⟨h0,0,none⟩),.int .i64 0,.pointer (some ⟨h1,0,none⟩),u6,u7,u8,u9,u10,u11,u12,u13,u14,u15,u16,u17,u18,u19,u20,u21,u22,u23,u24,u25,u26,u27,u28,u29,u30,u31,u32,u33,u34,u35,u36,u37,u38,u39,u40,u41,u42,u43,u44,u45,u46,u47,u48,u49,u50,u51,u52,u53,u54,u55,u56,u57,u58,u59,u60,u61,u62,u63,u64,u65,u66,u67,u68,u69,u70,u71,u72,u73,u74,u75,u76,u77,u78,u79,u80,u81,u82,u83,u84,u85,u86,u87,u88,u89,u90,u91,u92,u93,u94,u95,u96,u97,u98,u99,u100,u101,u102,u103,u104,u105,u106,u107],[]⟩ V:=by
 have z0:=B0.o.cell 0;simp only[Fx,Fv] at z0;have hn12:1≤n∧n≤32:=⟨hn1,hn2⟩
 clear hn12;have hne:=NE.o.1;clear hne;obtain⟨q0,q1,q2,q3,q8⟩:=hk.o;refine aj rfl ?_;intro K9 hK9;go_wp2_with fail;exact Met.intro (jS B1 (aa ⟨rfl,aa ⟨g,c,_,HX.o⟩,DV⟩))
theorem mH {l:List B8} {y:B8} (h:l[j]?=some y) {i:Nat} (hi:i<8):(aV l)[j*8+i]?=y.cs[i]?:=by
 have hj:=(FE.1 h).1;have h1:l=l.take j++l.drop j:=(List.take_append_drop j l).symm;have h2:l.drop j=y::l.drop (j+1):=by
  rw[List.drop_eq_getElem_cons hj];rw[Ft hj] at h;rw[FC h]
 have h3:aV l=aV (l.take j)++(y.cs++aV (l.drop (j+1))):=by
  conv=>lhs;rw[h1,h2]
  unfold aV;rw[List.flatMap_append,List.flatMap_cons]
 have h4:(aV (l.take j)).length=j*8:=by rw[cA,FI,Nat.min_eq_left (by omega)]
 have h5:y.cs.length=8:=rfl;rw[h3,FJ (by omega),h4,show j*8+i-j*8=i by omega,FK (by omega)]
theorem nV {w:World} {v:Value} {l:List B8} (h:au w base v l):au w.drew base v l:=h
theorem uD (w:World) (g o:Nat) (x:B8):Ex (fun b=>b=g) w (aS w g o x):=Ex.one (al (al (al (al (al (al (al (al (ar _ _) _ _) _ _) _ _) _ _) _ _) _ _) _ _) _ _)
theorem vx {ae:List (List B8)} {now:List B8} (HX:Hid (ClX base V K n ae now g c (.slice va vl vc))) (hn1:1≤n) (hn2:n≤32) {d:B8} (B0:Hid (Bx V h0 #[.int .i64 kd,.int .i64 at_,.int .i64 fr,.int .u8 d.z0,.int .u8 d.z1,.int .u8 d.z2,.int .u8 d.z3,.int .u8 d.z4,.int .u8 d.z5,.int .u8 d.z6,.int .u8 d.z7] 39)) (B1:Hid (Bx V h1 #[.int .u8 0,.int .u8 0,.int .u8 0,.int .u8 0,.int .u8 0,.int .u8 0,.int .u8 0,.int .u8 0] 25)) (DV:Hid (Below base V0 V)) (NE:Hid (h0≠g∧h0≠K∧h1≠g∧h1≠K∧h0≠h1∧base≤h1∧(∀ k,Value.ownBlock (.slice va vl vc)=some k→k≠h0∧k≠h1)∧base≤V0.heap.size)) (hk:kd=0) (hj:at_=(j:Int)) (hjl:Hid (j<n)) :
 aA Tryz.f9 (fun e w'=>e=.returned (.tuple #[.int .i64 0,.agg #[.int .u8 0,.int .u8 0,.int .u8 0,.int .u8 0,.int .u8 0,.int .u8 0,.int .u8 0,.int .u8 0]])∧Hid (ClW base w' K n ae (now.set j d))∧Hid (Below base V0 w')) 3 ⟨#[.pointer (some ⟨K,0,none⟩),u1,u2,.pointer (some ⟨h0,0,none⟩),.int .i64 0,.pointer (some ⟨h1,0,none⟩),u6,u7,u8,u9,u10,u11,u12,u13,u14,u15,u16,u17,u18,u19,u20,u21,u22,u23,u24,u25,u26,u27,u28,u29,u30,u31,u32,u33,u34,u35,u36,u37,u38,u39,u40,u41,u42,u43,u44,u45,u46,u47,u48,u49,u50,u51,u52,u53,u54,u55,u56,u57,u58,u59,u60,u61,u62,u63,u64,u65,u66,u67,u68,u69,u70,u71,u72,u73,u74,u75,u76,u77,u78,u79,u80,u81,u82,u83,u84,u85,u86,u87,u88,u89,u90,u91,u92,u93,u94,u95,u96,u97,u98,u99,u100,u101,u102,u103,u104,u105,u106,u107],[]⟩ V:=by
 have z0:=B0.o.cell 0;simp only[Fx,Fv] at z0;have hn12:1≤n∧n≤32:=⟨hn1,hn2⟩
 clear hn12;subst hk;subst hj;obtain⟨x0,x1⟩:=Bx.two HX.o.bx;have z1:=B0.o.cell 1;simp only[Fx,Fw,Fv] at z1;have c3:=B0.o.cell 3;have c4:=B0.o.cell 4;have c5:=B0.o.cell 5;have c6:=B0.o.cell 6;have c7:=B0.o.cell 7;have c8:=B0.o.cell 8;have c9:=B0.o.cell 9;have c10:=B0.o.cell 10;simp only[Fx,Fw,Fv] at c3 c4 c5 c6 c7 c8 c9 c10;have hjn:=hjl.o;have hjI:(j:Int)<(n:Int):=by omega
 have NG:=aa HX.o.ng;obtain⟨y,hy⟩:∃ y,now[j]?=some y:=⟨_,Ft (by rw[HX.o.nl];exact hjn)⟩
 have gc:∀ i u,y.cs[i]?=some u→V.cell? ⟨g,j*8+i,none⟩=some u:=fun i u hu=>by
  obtain⟨a9,c9,hv9,_,hr9,_⟩:=aB HX.o.nw;obtain⟨b9,o9,ha9,_,hc9⟩:=hr9.2.2 (by rw[HX.o.nl];omega);have e9:a9=some ⟨g,0,none⟩:=by injection hv9 with e9;exact e9.symm
  rw[e9] at ha9;injection ha9 with ha9
  injection ha9 with hb9 ho9
  subst hb9 ho9;have h9:=hc9 (j*8+i) u (by rw[mH hy (by have:=(FE.1 hu).1;exact this)];exact hu);rw[Nat.zero_add] at h9;exact h9
 have g0:=gc 0 _ rfl;have g1:=gc 1 _ rfl;have g2:=gc 2 _ rfl;have g3:=gc 3 _ rfl;have g4:=gc 4 _ rfl;have g5:=gc 5 _ rfl;have g6:=gc 6 _ rfl;have g7:=gc 7 _ rfl;rw[Nat.add_zero] at g0;have gf:=NG.o.2.2.2.2;clear gc;refine aj rfl ?_;intro K9 hK9;go_upto_region 7 with fail
 go_region
 obtain⟨W5,hW5⟩:∃ W5:World,Hid (W5=(aS V g (j*8) d).drew):=⟨_,rfl⟩
 have O5:=aa (show au W5 base (.slice (some ⟨g,0,none⟩) n c) (now.set j d) by rw[hW5.o];exact nV (HX.o.nw.put j (by rw[HX.o.nl];exact hjn) d));have E5:=aa (show Ex (fun b=>b=g) V W5 by rw[hW5.o];exact(uD V g (j*8) d).trans (Ex.below (Below.refl _ _).drew));unfold aS at hW5;rw[←hW5.o];clear hW5;have NEo:=NE.o;have B5:=aa (Ex.bx E5.o B1.o NEo.2.2.1);have X5:=aa (show ClX base W5 K n ae (now.set j d) g c (.slice va vl vc) from⟨Ex.bx E5.o HX.o.bx (fun e=>NG.o.1 e.symm),HX.o.kb,O5.o,HX.o.sn.ex E5.o (fun b hb _=>.inr hb) (fun k hk e=>(NG.o.2.2.2.1 k hk).2 e),by rw[List.length_set];exact HX.o.nl,FM HX.o.bs E5.o.size⟩);have F5:=aa (show Below base V0 W5 from DV.o.trans (E5.o.toBelow_of HX.o.bs (fun b hb=>by rw[hb];exact NG.o.2.1)));clear x0 x1 z1 c3 c4 c5 c6 c7 c8 c9 c10 g0 g1 g2 g3 g4 g5 g6 g7 gf NEo;go_wp2_with fail;exact Met.intro (jS B5 (aa ⟨rfl,aa ⟨g,c,_,X5.o⟩,F5⟩))
theorem xQ {ae:List (List B8)} {now:List B8} (HX:Hid (ClX base V K n ae now g c (.slice va vl vc))) (hn1:1≤n) (hn2:n≤32) {d:B8} (B0:Hid (Bx V h0 #[.int .i64 kd,.int .i64 at_,.int .i64 fr,.int .u8 d.z0,.int .u8 d.z1,.int .u8 d.z2,.int .u8 d.z3,.int .u8 d.z4,.int .u8 d.z5,.int .u8 d.z6,.int .u8 d.z7] 39)) (B1:Hid (Bx V h1 #[.int .u8 0,.int .u8 0,.int .u8 0,.int .u8 0,.int .u8 0,.int .u8 0,.int .u8 0,.int .u8 0] 25)) (DV:Hid (Below base V0 V)) (NE:Hid (h0≠g∧h0≠K∧h1≠g∧h1≠K∧h0≠h1∧base≤h1∧(∀ k,Value.ownBlock (.slice va vl vc)=some k→k≠h0∧k≠h1)∧base≤V0.heap.size)) (hk:kd=1) (hj:at_=(j:Int)) (hjl:Hid (j<n)) :
 aA Tryz.f9 (fun e w'=>e=.returned (.tuple #[.int .i64 0,.agg #[.int .u8 0,.int .u8 0,.int .u8 0,.int .u8 0,.int .u8 0,.int .u8 0,.int .u8 0,.int .u8 0]])∧Hid (ClW base w' K n ae (now.set j zB))∧Hid (Below base V0 w')) 3 ⟨#[.pointer (some ⟨K,0,none⟩),u1,u2,.pointer (some ⟨h0,0,none⟩),.int .i64 0,.pointer (some ⟨h1,0,none⟩),u6,u7,u8,u9,u10,u11,u12,u13,u14,u15,u16,u17,u18,u19,u20,u21,u22,u23,u24,u25,u26,u27,u28,u29,u30,u31,u32,u33,u34,u35,u36,u37,u38,u39,u40,u41,u42,u43,u44,u45,u46,u47,u48,u49,u50,u51,u52,u53,u54,u55,u56,u57,u58,u59,u60,u61,u62,u63,u64,u65,u66,u67,u68,u69,u70,u71,u72,u73,u74,u75,u76,u77,u78,u79,u80,u81,u82,u83,u84,u85,u86,u87,u88,u89,u90,u91,u92,u93,u94,u95,u96,u97,u98,u99,u100,u101,u102,u103,u104,u105,u106,u107],[]⟩ V:=by
 have z0:=B0.o.cell 0;simp only[Fx,Fv] at z0;have hn12:1≤n∧n≤32:=⟨hn1,hn2⟩
 clear hn12;subst hk;subst hj;obtain⟨x0,x1⟩:=Bx.two HX.o.bx;have z1:=B0.o.cell 1;simp only[Fx,Fw,Fv] at z1;have hjn:=hjl.o;have hjI:(j:Int)<(n:Int):=by omega
 have NG:=aa HX.o.ng;obtain⟨y,hy⟩:∃ y,now[j]?=some y:=⟨_,Ft (by rw[HX.o.nl];exact hjn)⟩
 have gc:∀ i u,y.cs[i]?=some u→V.cell? ⟨g,j*8+i,none⟩=some u:=fun i u hu=>by
  obtain⟨a9,c9,hv9,_,hr9,_⟩:=aB HX.o.nw;obtain⟨b9,o9,ha9,_,hc9⟩:=hr9.2.2 (by rw[HX.o.nl];omega);have e9:a9=some ⟨g,0,none⟩:=by injection hv9 with e9;exact e9.symm
  rw[e9] at ha9;injection ha9 with ha9
  injection ha9 with hb9 ho9
  subst hb9 ho9;have h9:=hc9 (j*8+i) u (by rw[mH hy (by have:=(FE.1 hu).1;exact this)];exact hu);rw[Nat.zero_add] at h9;exact h9
 have g0:=gc 0 _ rfl;have g1:=gc 1 _ rfl;have g2:=gc 2 _ rfl;have g3:=gc 3 _ rfl;have g4:=gc 4 _ rfl;have g5:=gc 5 _ rfl;have g6:=gc 6 _ rfl;have g7:=gc 7 _ rfl;rw[Nat.add_zero] at g0;have gf:=NG.o.2.2.2.2;clear gc;refine aj rfl ?_;intro K9 hK9;go_upto_region 9 with fail
 go_region
 obtain⟨W5,hW5⟩:∃ W5:World,Hid (W5=(aS V g (j*8) zB).drew):=⟨_,rfl⟩
 have O5:=aa (show au W5 base (.slice (some ⟨g,0,none⟩) n c) (now.set j zB) by rw[hW5.o];exact nV (HX.o.nw.put j (by rw[HX.o.nl];exact hjn) zB));have E5:=aa (show Ex (fun b=>b=g) V W5 by rw[hW5.o];exact(uD V g (j*8) zB).trans (Ex.below (Below.refl _ _).drew));have hW6:Hid (W5=((((((((V.setCell ⟨g,j*8,none⟩ (.int .u8 0)).setCell ⟨g,j*8+1,none⟩ (.int .u8 0)).setCell ⟨g,j*8+2,none⟩ (.int .u8 0)).setCell ⟨g,j*8+3,none⟩ (.int .u8 0)).setCell ⟨g,j*8+4,none⟩ (.int .u8 0)).setCell ⟨g,j*8+5,none⟩ (.int .u8 0)).setCell ⟨g,j*8+6,none⟩ (.int .u8 0)).setCell ⟨g,j*8+7,none⟩ (.int .u8 0)).drew):=hW5;clear hW5;have hW5:=hW6;clear hW6;rw[←hW5.o];clear hW5;have NEo:=NE.o;have B5:=aa (Ex.bx E5.o B1.o NEo.2.2.1);have X5:=aa (show ClX base W5 K n ae (now.set j zB) g c (.slice va vl vc) from⟨Ex.bx E5.o HX.o.bx (fun e=>NG.o.1 e.symm),HX.o.kb,O5.o,HX.o.sn.ex E5.o (fun b hb _=>.inr hb) (fun k hk e=>(NG.o.2.2.2.1 k hk).2 e),by rw[List.length_set];exact HX.o.nl,FM HX.o.bs E5.o.size⟩);have F5:=aa (show Below base V0 W5 from DV.o.trans (E5.o.toBelow_of HX.o.bs (fun b hb=>by rw[hb];exact NG.o.2.1)));clear x0 x1 z1  g0 g1 g2 g3 g4 g5 g6 g7 gf NEo;go_wp2_with fail;exact Met.intro (jS B5 (aa ⟨rfl,aa ⟨g,c,_,X5.o⟩,F5⟩))
theorem xP {ae:List (List B8)} {now:List B8} (HX:Hid (ClX base V K n ae now g c (.slice va vl vc))) (hn1:1≤n) (hn2:n≤32) {d:B8} (B0:Hid (Bx V h0 #[.int .i64 kd,.int .i64 at_,.int .i64 fr,.int .u8 d.z0,.int .u8 d.z1,.int .u8 d.z2,.int .u8 d.z3,.int .u8 d.z4,.int .u8 d.z5,.int .u8 d.z6,.int .u8 d.z7] 39)) (B1:Hid (Bx V h1 #[.int .u8 0,.int .u8 0,.int .u8 0,.int .u8 0,.int .u8 0,.int .u8 0,.int .u8 0,.int .u8 0] 25)) (DV:Hid (Below base V0 V)) (NE:Hid (h0≠g∧h0≠K∧h1≠g∧h1≠K∧h0≠h1∧base≤h1∧(∀ k,Value.ownBlock (.slice va vl vc)=some k→k≠h0∧k≠h1)∧base≤V0.heap.size)) {y:B8} (hk:kd=2) (hj:at_=(j:Int)) (hjl:Hid (j<n)) (HY:Hid (now[j]?=some y)) (HZ:Hid (cy base V (.slice va vl vc) n ae (fun b=>(b=K∨b=g)∨b=h1))) :
 aA Tryz.f9 (fun e w'=>e=.returned (.tuple #[.int .i64 0,.agg #[.int .u8 y.z0,.int .u8 y.z1,.int .u8 y.z2,.int .u8 y.z3,.int .u8 y.z4,.int .u8 y.z5,.int .u8 y.z6,.int .u8 y.z7]])∧Hid (ClW base w' K n ae now)∧Hid (Below base V0 w')) 3 ⟨#[.pointer (some ⟨K,0,none⟩),u1,u2,.pointer (some ⟨h0,0,none⟩),.int .i64 0,.pointer (some ⟨h1,0,none⟩),u6,u7,u8,u9,u10,u11,u12,u13,u14,u15,u16,u17,u18,u19,u20,u21,u22,u23,u24,u25,u26,u27,u28,u29,u30,u31,u32,u33,u34,u35,u36,u37,u38,u39,u40,u41,u42,u43,u44,u45,u46,u47,u48,u49,u50,u51,u52,u53,u54,u55,u56,u57,u58,u59,u60,u61,u62,u63,u64,u65,u66,u67,u68,u69,u70,u71,u72,u73,u74,u75,u76,u77,u78,u79,u80,u81,u82,u83,u84,u85,u86,u87,u88,u89,u90,u91,u92,u93,u94,u95,u96,u97,u98,u99,u100,u101,u102,u103,u104,u105,u106,u107],[]⟩ V:=by
 have z0:=B0.o.cell 0;simp only[Fx,Fv] at z0;have hn12:1≤n∧n≤32:=⟨hn1,hn2⟩
 clear hn12;subst hk;subst hj;obtain⟨x0,x1⟩:=Bx.two HX.o.bx;have z1:=B0.o.cell 1;simp only[Fx,Fw,Fv] at z1;have hjn:=hjl.o;have hjI:(j:Int)<(n:Int):=by omega
 have NG:=aa HX.o.ng;have hy:=HY.o;obtain⟨w0,w1,w2,w3,w4,w5,w6,w7,wf⟩:=iW B1.o;have gc:∀ i u,y.cs[i]?=some u→V.cell? ⟨g,j*8+i,none⟩=some u:=fun i u hu=>by
  obtain⟨a9,c9,hv9,_,hr9,_⟩:=aB HX.o.nw;obtain⟨b9,o9,ha9,_,hc9⟩:=hr9.2.2 (by rw[HX.o.nl];omega);have e9:a9=some ⟨g,0,none⟩:=by injection hv9 with e9;exact e9.symm
  rw[e9] at ha9;injection ha9 with ha9
  injection ha9 with hb9 ho9
  subst hb9 ho9;have h9:=hc9 (j*8+i) u (by rw[mH hy (by have:=(FE.1 hu).1;exact this)];exact hu);rw[Nat.zero_add] at h9;exact h9
 have g0:=gc 0 _ rfl;have g1:=gc 1 _ rfl;have g2:=gc 2 _ rfl;have g3:=gc 3 _ rfl;have g4:=gc 4 _ rfl;have g5:=gc 5 _ rfl;have g6:=gc 6 _ rfl;have g7:=gc 7 _ rfl;rw[Nat.add_zero] at g0;have gf:=NG.o.2.2.2.2;clear gc;refine aj rfl ?_;intro K9 hK9;go_upto_region 11 with fail
 go_region
 obtain⟨W5,hW5⟩:∃ W5:World,Hid (W5=(mE V h1 y).drew):=⟨_,rfl⟩
 have B5:=aa (show Bx W5 h1 #[.int .u8 y.z0,.int .u8 y.z1,.int .u8 y.z2,.int .u8 y.z3,.int .u8 y.z4,.int .u8 y.z5,.int .u8 y.z6,.int .u8 y.z7] 25 by rw[hW5.o];exact(uu B1.o y).cf);have E5:=aa (show Ex (fun b=>b=h1) V W5 by rw[hW5.o];exact(Ex.one (nf V h1 y)).trans (Ex.below (Below.refl _ _).drew));unfold mE at hW5;rw[←hW5.o];clear hW5;have NEo:=NE.o;have X5:=aa (show ClX base W5 K n ae now g c (.slice va vl vc) from⟨Ex.bx E5.o HX.o.bx (fun e=>NEo.2.2.2.1 e.symm),HX.o.kb,World.ownsRow.kept HX.o.nw ⟨E5.o.os,E5.o.tape,E5.o.output,E5.o.size,fun b hb hn=>E5.o.block b hb (fun e=>hn (by rw[e]))⟩ (.inr (fun e=>NEo.2.2.1 (FC e).symm)),(HZ.o.ex E5.o (fun b hb _=>.inr hb) (fun k hk e=>(NEo.2.2.2.2.2.2.1 k hk).2 e)).wd (fun b _ hb=>.inl hb),HX.o.nl,FM HX.o.bs E5.o.size⟩);have F5:=aa (show Below base V0 W5 from DV.o.trans (E5.o.toBelow_of HX.o.bs (fun b hb=>by rw[hb];exact NEo.2.2.2.2.2.1)));clear x0 x1 z1 g0 g1 g2 g3 g4 g5 g6 g7 gf NEo w0 w1 w2 w3 w4 w5 w6 w7 wf;obtain⟨r0,r1,r2,r3,r4,r5,r6,r7⟩:=B5.o.eight;go_wp2_with fail;exact bodyPost_ret (v:=.tuple #[.int .i64 0,.agg #[.int .u8 y.z0,.int .u8 y.z1,.int .u8 y.z2,.int .u8 y.z3,.int .u8 y.z4,.int .u8 y.z5,.int .u8 y.z6,.int .u8 y.z7]]) (by simp[results,Tryz.results9,go_sem,r0,r1,r2,r3,r4,r5,r6,r7]) rfl ⟨rfl,aa ⟨g,c,_,X5.o⟩,F5⟩
end
section
variable {n c base K g vl vc h0 h1:Nat} {a va:Option Addr} {V V0 W:World} {kd at_ fr:Int} {u1 u2 u6 u7 u8 u9 u10 u11 u12 u13 u14 u15 u16 u17 u18 u19 u20 u21 u22 u23 u24 u25 u26 u27 u28 u29 u30 u31 u32 u33 u34 u35 u36 u37 u38 u39 u40 u41 u42 u43 u44 u45 u46 u47 u48 u49 u50 u51 u52 u53 u54 u55 u56 u57 u58 u59 u60 u61 u62 u63 u64 u65 u66 u67 u68 u69 u70 u71 u72 u73 u74 u75 u76 u77 u78 u79 u80 u81 u82 u83 u84 u85 u86 u87 u88 u89 u90 u91 u92 u93 u94 u95 u96 u97 u98 u99 u100 u101 u102 u103 u104 u105 u106 u107:Value}
theorem au.bl_ {w:World} {B:Nat} {l:List B8} (h:au w B (.slice a n c) l):BL w a n l∧n≤c∧∀ p,a=some p→B≤p.block:=by
 obtain⟨a',c',hv,hc,hr,hp⟩:=aB h;cases hv
 exact⟨⟨rfl,hr⟩,hc,hp⟩
structure DS (V w5:World) (n:Nat) (l:List B8) (a:Option Addr) (c:Nat):Prop where
 d:Below V.heap.size V w5
 bl:BL w5 a n l
 nc:n≤c
 lo:∀ p,a=some p→V.heap.size≤p.block∧p.block<w5.heap.size
 ow:au w5 V.heap.size (.slice a n c) l
theorem zk (V:World) (a:Option Addr) (n c:Nat) (l:List B8) (hl:BL V a n l) (hp:0<n) (hn:n≤1000) :
 Calls Tryz.prog 18 #[.slice a n c] V.drew fun e w5=>∃ a5 c5,e=.returned (.slice a5 n c5)∧Hid (DS V w5 n l a5 c5):=by
 have DD:Below V.heap.size V V.drew:=(Below.refl _ _).drew;refine(qK a n c l V.drew (hl.later DD) (by omega)).mono ?_;rintro e w5 ⟨v5,rfl,o5,d5⟩;obtain⟨a5,c5,hv5,hc5,hr5,hp5⟩:=aB o5;rw[hl.1] at hv5 hc5 hr5;subst hv5;refine⟨a5,c5,rfl,aa ⟨DD.trans d5,⟨hl.1,hr5⟩,hc5,fun p hpa=>⟨hp5 p hpa,?_⟩,o5⟩⟩;obtain⟨b,off,ha,hlt,_⟩:=hr5.2.2 hp;rw[ha] at hpa;cases hpa
 exact hlt
structure Ff (base:Nat) (V w5 w6:World) (K n:Nat) (ae:List (List B8)) (now:List B8) (g c:Nat) (v:Value) (l:List B8) (a:Option Addr) (c5:Nat):Prop where
 d:Below V.heap.size V w6
 bx:Bx w6 w5.heap.size #[.slice a n c5] 26
 bl:BL w6 a n l
 sn:cy base w6 v n ae (fun b=>b=K∨b=g)
 kx:Bx w6 K #[.slice (some ⟨g,0,none⟩) n c,v] 44
 lo:∀ p,a=some p→base≤p.block∧p.block<w6.heap.size∧¬(p.block=K∨p.block=g)∧v.ownBlock≠some p.block
 hb:base≤w6.heap.size
theorem Fm {w5:World} {ae:List (List B8)} {now:List B8} {v:Value} {l:List B8} {c5:Nat} (X:ClX base V K n ae now g c v) (h:DS V w5 n l a c5):Ff base V w5 (w5.alloc (.cells #[.slice a n c5] 26)) K n ae now g c v l a c5:=by
 have d6:Below V.heap.size V (w5.alloc (.cells #[.slice a n c5] 26)):=h.d.alloc h.d.size _;have hK:=Bx.lt X.bx;refine⟨d6,Bx.new w5 _ _,h.bl.later (af _ _),X.sn.later d6,Bx.later X.bx d6 hK,fun p hp=>?_,FM X.bs d6.size⟩;obtain⟨h1,h2⟩:=h.lo p hp;have h3:=X.bs;have h4:=X.ng.2.2.1;refine⟨by omega,by simp;omega,by omega,fun e=>?_⟩;have h5:=(X.sn.lt _ e).2;omega
theorem Ed {ae:List (List B8)} {now:List B8} (HX:Hid (ClX base W K n ae now g c (.slice va vl vc))) (hn1:1≤n) (hn2:n≤32) {d:B8} (B0:Hid (Bx W h0 #[.int .i64 kd,.int .i64 at_,.int .i64 fr,.int .u8 d.z0,.int .u8 d.z1,.int .u8 d.z2,.int .u8 d.z3,.int .u8 d.z4,.int .u8 d.z5,.int .u8 d.z6,.int .u8 d.z7] 39)) (B1:Hid (Bx W h1 #[.int .u8 0,.int .u8 0,.int .u8 0,.int .u8 0,.int .u8 0,.int .u8 0,.int .u8 0,.int .u8 0] 25)) (DV:Hid (Below base V0 W)) (NE:Hid (h0≠g∧h0≠K∧h1≠g∧h1≠K∧h0≠h1∧base≤h1∧(∀ k,Value.ownBlock (.slice va vl vc)=some k→k≠h0∧k≠h1)∧base≤V0.heap.size)) (hk:kd=0) (hr:Hid (at_<0∨(n:Int)≤at_)) :
 aA Tryz.f9 (fun e w'=>e=.returned (.tuple #[.int .i64 1,.agg #[.int .u8 0,.int .u8 0,.int .u8 0,.int .u8 0,.int .u8 0,.int .u8 0,.int .u8 0,.int .u8 0]])∧Hid (ClW base w' K n ae now)∧Hid (Below base V0 w')) 1 ⟨#[.pointer (some ⟨K,0,none⟩),u1,u2,.pointer (some ⟨h0,0,none⟩),.int .i64 0,.pointer (some ⟨h1,0,none⟩),u6,u7,u8,u9,u10,u11,u12,u13,u14,u15,u16,u17,u18,u19,u20,u21,u22,u23,u24,u25,u26,u27,u28,u29,u30,u31,u32,u33,u34,u35,u36,u37,u38,u39,u40,u41,u42,u43,u44,u45,u46,u47,u48,u49,u50,u51,u52,u53,u54,u55,u56,u57,u58,u59,u60,u61,u62,u63,u64,u65,u66,u67,u68,u69,u70,u71,u72,u73,u74,u75,u76,u77,u78,u79,u80,u81,u82,u83,u84,u85,u86,u87,u88,u89,u90,u91,u92,u93,u94,u95,u96,u97,u98,u99,u100,u101,u102,u103,u104,u105,u106,u107],[]⟩ W:=by
 have z0:=B0.o.cell 0;simp only[Fx,Fv] at z0;have hn12:1≤n∧n≤32:=⟨hn1,hn2⟩
 clear hn12;subst hk;have z1:=B0.o.cell 1;simp only[Fx,Fw,Fv] at z1;obtain⟨x0,x1⟩:=Bx.two HX.o.bx;have hne:=NE.o.1;clear hne;have HI:=aa (show(((((((W.drew.setCell ⟨h1,0,none⟩ (.int .u8 0)).setCell ⟨h1,1,none⟩ (.int .u8 0)).setCell ⟨h1,2,none⟩ (.int .u8 0)).setCell ⟨h1,3,none⟩ (.int .u8 0)).setCell ⟨h1,4,none⟩ (.int .u8 0)).setCell ⟨h1,5,none⟩ (.int .u8 0)).setCell ⟨h1,6,none⟩ (.int .u8 0)).setCell ⟨h1,7,none⟩ (.int .u8 0)=W.drew from gK (x:=zB) B1.o.cf);obtain⟨WD,hWD⟩:∃ WD:World,Hid (WD=W.drew):=⟨_,rfl⟩
 have BD:=aa (show Bx WD h1 #[.int .u8 0,.int .u8 0,.int .u8 0,.int .u8 0,.int .u8 0,.int .u8 0,.int .u8 0,.int .u8 0] 25 by rw[hWD.o];exact B1.o.cf);have DD:=aa (show Below W.heap.size W WD by rw[hWD.o];exact(Below.refl _ _).drew);have XD:=aa (HX.o.later DD.o);have FD:=aa (show Below base V0 WD from DV.o.trans (DD.o.mono HX.o.bs));rw[←hWD.o] at HI;obtain⟨r0,r1,r2,r3,r4,r5,r6,r7,rf⟩:=iW BD.o;refine aj rfl ?_;intro K9 hK9;go_wp2_with fail;refine Met.intro (aj rfl ?_);intro K8 hK8;rcases hr.o with a0|a0
 ·have f0:decide (at_<0)=true:=by simpa using a0
  go_upto_region 3 with fail
  go_region
  rw[←hWD.o];go_wp2_with fail;rw[HI.o];exact bodyPost_ret (v:=.tuple #[.int .i64 1,.agg #[.int .u8 0,.int .u8 0,.int .u8 0,.int .u8 0,.int .u8 0,.int .u8 0,.int .u8 0,.int .u8 0]]) (by simp[results,Tryz.results9,go_sem,r0,r1,r2,r3,r4,r5,r6,r7]) rfl ⟨rfl,aa ⟨g,c,_,XD.o⟩,FD⟩
 ·have a1:¬at_<0:=by omega
  have f0:decide (at_<0)=false:=by simpa using a1
  have f1:decide ((n:Int)≤at_)=true:=by simpa using a0
  go_upto_region 3 with fail
  go_region
  rw[←hWD.o];go_wp2_with fail;rw[HI.o];exact bodyPost_ret (v:=.tuple #[.int .i64 1,.agg #[.int .u8 0,.int .u8 0,.int .u8 0,.int .u8 0,.int .u8 0,.int .u8 0,.int .u8 0,.int .u8 0]]) (by simp[results,Tryz.results9,go_sem,r0,r1,r2,r3,r4,r5,r6,r7]) rfl ⟨rfl,aa ⟨g,c,_,XD.o⟩,FD⟩
theorem Ee {ae:List (List B8)} {now:List B8} (HX:Hid (ClX base W K n ae now g c (.slice va vl vc))) (hn1:1≤n) (hn2:n≤32) {d:B8} (B0:Hid (Bx W h0 #[.int .i64 kd,.int .i64 at_,.int .i64 fr,.int .u8 d.z0,.int .u8 d.z1,.int .u8 d.z2,.int .u8 d.z3,.int .u8 d.z4,.int .u8 d.z5,.int .u8 d.z6,.int .u8 d.z7] 39)) (B1:Hid (Bx W h1 #[.int .u8 0,.int .u8 0,.int .u8 0,.int .u8 0,.int .u8 0,.int .u8 0,.int .u8 0,.int .u8 0] 25)) (DV:Hid (Below base V0 W)) (NE:Hid (h0≠g∧h0≠K∧h1≠g∧h1≠K∧h0≠h1∧base≤h1∧(∀ k,Value.ownBlock (.slice va vl vc)=some k→k≠h0∧k≠h1)∧base≤V0.heap.size)) (hk:kd=1) (hr:Hid (at_<0∨(n:Int)≤at_)) :
 aA Tryz.f9 (fun e w'=>e=.returned (.tuple #[.int .i64 1,.agg #[.int .u8 0,.int .u8 0,.int .u8 0,.int .u8 0,.int .u8 0,.int .u8 0,.int .u8 0,.int .u8 0]])∧Hid (ClW base w' K n ae now)∧Hid (Below base V0 w')) 1 ⟨#[.pointer (some ⟨K,0,none⟩),u1,u2,.pointer (some ⟨h0,0,none⟩),.int .i64 0,.pointer (some ⟨h1,0,none⟩),u6,u7,u8,u9,u10,u11,u12,u13,u14,u15,u16,u17,u18,u19,u20,u21,u22,u23,u24,u25,u26,u27,u28,u29,u30,u31,u32,u33,u34,u35,u36,u37,u38,u39,u40,u41,u42,u43,u44,u45,u46,u47,u48,u49,u50,u51,u52,u53,u54,u55,u56,u57,u58,u59,u60,u61,u62,u63,u64,u65,u66,u67,u68,u69,u70,u71,u72,u73,u74,u75,u76,u77,u78,u79,u80,u81,u82,u83,u84,u85,u86,u87,u88,u89,u90,u91,u92,u93,u94,u95,u96,u97,u98,u99,u100,u101,u102,u103,u104,u105,u106,u107],[]⟩ W:=by
 have z0:=B0.o.cell 0;simp only[Fx,Fv] at z0;have hn12:1≤n∧n≤32:=⟨hn1,hn2⟩
 clear hn12;subst hk;have z1:=B0.o.cell 1;simp only[Fx,Fw,Fv] at z1;obtain⟨x0,x1⟩:=Bx.two HX.o.bx;have hne:=NE.o.1;clear hne;have HI:=aa (show(((((((W.drew.setCell ⟨h1,0,none⟩ (.int .u8 0)).setCell ⟨h1,1,none⟩ (.int .u8 0)).setCell ⟨h1,2,none⟩ (.int .u8 0)).setCell ⟨h1,3,none⟩ (.int .u8 0)).setCell ⟨h1,4,none⟩ (.int .u8 0)).setCell ⟨h1,5,none⟩ (.int .u8 0)).setCell ⟨h1,6,none⟩ (.int .u8 0)).setCell ⟨h1,7,none⟩ (.int .u8 0)=W.drew from gK (x:=zB) B1.o.cf);obtain⟨WD,hWD⟩:∃ WD:World,Hid (WD=W.drew):=⟨_,rfl⟩
 have BD:=aa (show Bx WD h1 #[.int .u8 0,.int .u8 0,.int .u8 0,.int .u8 0,.int .u8 0,.int .u8 0,.int .u8 0,.int .u8 0] 25 by rw[hWD.o];exact B1.o.cf);have DD:=aa (show Below W.heap.size W WD by rw[hWD.o];exact(Below.refl _ _).drew);have XD:=aa (HX.o.later DD.o);have FD:=aa (show Below base V0 WD from DV.o.trans (DD.o.mono HX.o.bs));rw[←hWD.o] at HI;obtain⟨r0,r1,r2,r3,r4,r5,r6,r7,rf⟩:=iW BD.o;refine aj rfl ?_;intro K9 hK9;go_wp2_with fail;refine Met.intro (aj rfl ?_);intro K8 hK8;rcases hr.o with a0|a0
 ·have f0:decide (at_<0)=true:=by simpa using a0
  go_upto_region 3 with fail
  go_region
  rw[←hWD.o];go_wp2_with fail;rw[HI.o];exact bodyPost_ret (v:=.tuple #[.int .i64 1,.agg #[.int .u8 0,.int .u8 0,.int .u8 0,.int .u8 0,.int .u8 0,.int .u8 0,.int .u8 0,.int .u8 0]]) (by simp[results,Tryz.results9,go_sem,r0,r1,r2,r3,r4,r5,r6,r7]) rfl ⟨rfl,aa ⟨g,c,_,XD.o⟩,FD⟩
 ·have a1:¬at_<0:=by omega
  have f0:decide (at_<0)=false:=by simpa using a1
  have f1:decide ((n:Int)≤at_)=true:=by simpa using a0
  go_upto_region 3 with fail
  go_region
  rw[←hWD.o];go_wp2_with fail;rw[HI.o];exact bodyPost_ret (v:=.tuple #[.int .i64 1,.agg #[.int .u8 0,.int .u8 0,.int .u8 0,.int .u8 0,.int .u8 0,.int .u8 0,.int .u8 0,.int .u8 0]]) (by simp[results,Tryz.results9,go_sem,r0,r1,r2,r3,r4,r5,r6,r7]) rfl ⟨rfl,aa ⟨g,c,_,XD.o⟩,FD⟩
theorem Ef {ae:List (List B8)} {now:List B8} (HX:Hid (ClX base W K n ae now g c (.slice va vl vc))) (hn1:1≤n) (hn2:n≤32) {d:B8} (B0:Hid (Bx W h0 #[.int .i64 kd,.int .i64 at_,.int .i64 fr,.int .u8 d.z0,.int .u8 d.z1,.int .u8 d.z2,.int .u8 d.z3,.int .u8 d.z4,.int .u8 d.z5,.int .u8 d.z6,.int .u8 d.z7] 39)) (B1:Hid (Bx W h1 #[.int .u8 0,.int .u8 0,.int .u8 0,.int .u8 0,.int .u8 0,.int .u8 0,.int .u8 0,.int .u8 0] 25)) (DV:Hid (Below base V0 W)) (NE:Hid (h0≠g∧h0≠K∧h1≠g∧h1≠K∧h0≠h1∧base≤h1∧(∀ k,Value.ownBlock (.slice va vl vc)=some k→k≠h0∧k≠h1)∧base≤V0.heap.size)) (hk:kd=2) (hr:Hid (at_<0∨(n:Int)≤at_)) :
 aA Tryz.f9 (fun e w'=>e=.returned (.tuple #[.int .i64 1,.agg #[.int .u8 0,.int .u8 0,.int .u8 0,.int .u8 0,.int .u8 0,.int .u8 0,.int .u8 0,.int .u8 0]])∧Hid (ClW base w' K n ae now)∧Hid (Below base V0 w')) 1 ⟨#[.pointer (some ⟨K,0,none⟩),u1,u2,.pointer (some ⟨h0,0,none⟩),.int .i64 0,.pointer (some ⟨h1,0,none⟩),u6,u7,u8,u9,u10,u11,u12,u13,u14,u15,u16,u17,u18,u19,u20,u21,u22,u23,u24,u25,u26,u27,u28,u29,u30,u31,u32,u33,u34,u35,u36,u37,u38,u39,u40,u41,u42,u43,u44,u45,u46,u47,u48,u49,u50,u51,u52,u53,u54,u55,u56,u57,u58,u59,u60,u61,u62,u63,u64,u65,u66,u67,u68,u69,u70,u71,u72,u73,u74,u75,u76,u77,u78,u79,u80,u81,u82,u83,u84,u85,u86,u87,u88,u89,u90,u91,u92,u93,u94,u95,u96,u97,u98,u99,u100,u101,u102,u103,u104,u105,u106,u107],[]⟩ W:=by
 have z0:=B0.o.cell 0;simp only[Fx,Fv] at z0;have hn12:1≤n∧n≤32:=⟨hn1,hn2⟩
 clear hn12;subst hk;have z1:=B0.o.cell 1;simp only[Fx,Fw,Fv] at z1;obtain⟨x0,x1⟩:=Bx.two HX.o.bx;have hne:=NE.o.1;clear hne;have HI:=aa (show(((((((W.drew.setCell ⟨h1,0,none⟩ (.int .u8 0)).setCell ⟨h1,1,none⟩ (.int .u8 0)).setCell ⟨h1,2,none⟩ (.int .u8 0)).setCell ⟨h1,3,none⟩ (.int .u8 0)).setCell ⟨h1,4,none⟩ (.int .u8 0)).setCell ⟨h1,5,none⟩ (.int .u8 0)).setCell ⟨h1,6,none⟩ (.int .u8 0)).setCell ⟨h1,7,none⟩ (.int .u8 0)=W.drew from gK (x:=zB) B1.o.cf);obtain⟨WD,hWD⟩:∃ WD:World,Hid (WD=W.drew):=⟨_,rfl⟩
 have BD:=aa (show Bx WD h1 #[.int .u8 0,.int .u8 0,.int .u8 0,.int .u8 0,.int .u8 0,.int .u8 0,.int .u8 0,.int .u8 0] 25 by rw[hWD.o];exact B1.o.cf);have DD:=aa (show Below W.heap.size W WD by rw[hWD.o];exact(Below.refl _ _).drew);have XD:=aa (HX.o.later DD.o);have FD:=aa (show Below base V0 WD from DV.o.trans (DD.o.mono HX.o.bs));rw[←hWD.o] at HI;obtain⟨r0,r1,r2,r3,r4,r5,r6,r7,rf⟩:=iW BD.o;refine aj rfl ?_;intro K9 hK9;go_wp2_with fail;refine Met.intro (aj rfl ?_);intro K8 hK8;rcases hr.o with a0|a0
 ·have f0:decide (at_<0)=true:=by simpa using a0
  go_upto_region 3 with fail
  go_region
  rw[←hWD.o];go_wp2_with fail;rw[HI.o];exact bodyPost_ret (v:=.tuple #[.int .i64 1,.agg #[.int .u8 0,.int .u8 0,.int .u8 0,.int .u8 0,.int .u8 0,.int .u8 0,.int .u8 0,.int .u8 0]]) (by simp[results,Tryz.results9,go_sem,r0,r1,r2,r3,r4,r5,r6,r7]) rfl ⟨rfl,aa ⟨g,c,_,XD.o⟩,FD⟩
 ·have a1:¬at_<0:=by omega
  have f0:decide (at_<0)=false:=by simpa using a1
  have f1:decide ((n:Int)≤at_)=true:=by simpa using a0
  go_upto_region 3 with fail
  go_region
  rw[←hWD.o];go_wp2_with fail;rw[HI.o];exact bodyPost_ret (v:=.tuple #[.int .i64 1,.agg #[.int .u8 0,.int .u8 0,.int .u8 0,.int .u8 0,.int .u8 0,.int .u8 0,.int .u8 0,.int .u8 0]]) (by simp[results,Tryz.results9,go_sem,r0,r1,r2,r3,r4,r5,r6,r7]) rfl ⟨rfl,aa ⟨g,c,_,XD.o⟩,FD⟩
theorem rF {ae:List (List B8)} {now:List B8} (HX:Hid (ClX base V K n ae now g c (.slice va vl vc))) (hn1:1≤n) (hn2:n≤32) {d:B8} (B0:Hid (Bx V h0 #[.int .i64 kd,.int .i64 at_,.int .i64 fr,.int .u8 d.z0,.int .u8 d.z1,.int .u8 d.z2,.int .u8 d.z3,.int .u8 d.z4,.int .u8 d.z5,.int .u8 d.z6,.int .u8 d.z7] 39)) (B1:Hid (Bx V h1 #[.int .u8 0,.int .u8 0,.int .u8 0,.int .u8 0,.int .u8 0,.int .u8 0,.int .u8 0,.int .u8 0] 25)) (DV:Hid (Below base V0 V)) (NE:Hid (h0≠g∧h0≠K∧h1≠g∧h1≠K∧h0≠h1∧base≤h1∧(∀ k,Value.ownBlock (.slice va vl vc)=some k→k≠h0∧k≠h1)∧base≤V0.heap.size)) (hk:kd=3) (hlen:ae.length≤1000) :
 aA Tryz.f9 (fun e w'=>e=.returned (.tuple #[.int .i64 0,.agg #[.int .u8 0,.int .u8 0,.int .u8 0,.int .u8 0,.int .u8 0,.int .u8 0,.int .u8 0,.int .u8 0]])∧Hid (ClW base w' K n (ae++[now]) now)∧Hid (Below base V0 w')) 3 ⟨#[.pointer (some ⟨K,0,none⟩),u1,u2,.pointer (some ⟨h0,0,none⟩),.int .i64 0,.pointer (some ⟨h1,0,none⟩),u6,u7,u8,u9,u10,u11,u12,u13,u14,u15,u16,u17,u18,u19,u20,u21,u22,u23,u24,u25,u26,u27,u28,u29,u30,u31,u32,u33,u34,u35,u36,u37,u38,u39,u40,u41,u42,u43,u44,u45,u46,u47,u48,u49,u50,u51,u52,u53,u54,u55,u56,u57,u58,u59,u60,u61,u62,u63,u64,u65,u66,u67,u68,u69,u70,u71,u72,u73,u74,u75,u76,u77,u78,u79,u80,u81,u82,u83,u84,u85,u86,u87,u88,u89,u90,u91,u92,u93,u94,u95,u96,u97,u98,u99,u100,u101,u102,u103,u104,u105,u106,u107],[]⟩ V:=by
 have z0:=B0.o.cell 0;simp only[Fx,Fv] at z0;have hn12:1≤n∧n≤32:=⟨hn1,hn2⟩
 clear hn12;subst hk;have hne:=NE.o;have NG:=aa HX.o.ng;obtain⟨x0,x1⟩:=Bx.two HX.o.bx;have xf:=Bx.frozen HX.o.bx;have HBL:=aa (au.bl_ HX.o.nw);have hKV:K<V.heap.size:=Bx.lt HX.o.bx;have HLEN:=aa hlen;have hKv:Hid (∀ k,Value.ownBlock (.slice va vl vc)=some k→¬k=K):=fun k hk e=>(NG.o.2.2.2.1 k hk).1 e
 refine aj rfl ?_;intro K9 hK9;go_upto_region 13 with fail
 go_region_law (first
  |(rw[←hw6.o];refine jx (w:=w6) rfl (.tmp 83) (.tmp 89) rfl base (v:=.slice va vl vc) (n:=n) (ae:=ae) (Z:=fun b=>b=K∨b=g) rfl S6.o.sn w5.heap.size (ad:=a5) (c:=c5) (l:=now) rfl S6.o.bx S6.o.bl Q5.o.nc S6.o.lo HLEN.o S6.o.hb ?_;intro ya yn yc w7 g1 g2 g3;have X7:=aa (Bx.grow S6.o.kx g2.o (fun e=>hKv.o K e.symm rfl));obtain⟨y0,y1⟩:=X7.o.two;have yf:=X7.o.frozen)
  |(go_simp;go_at_call 18;refine(zk V (some ⟨g,0,none⟩) n c now HBL.o.1 (by omega) (by omega)).mono ?_;rintro e w5 ⟨a5,c5,rfl,Q5⟩;obtain⟨w6,hw6⟩:∃ w6:World,Hid (w6=w5.alloc (.cells #[.slice a5 n c5] 26)):=⟨_,rfl⟩;have S6:=aa (Fm HX.o Q5.o);rw[←hw6.o] at S6;obtain⟨m0,m1⟩:=(Bx.later HX.o.bx Q5.o.d hKV).two;have hK5:K<w5.heap.size:=Fz hKV Q5.o.d.size))
 all_goals
  obtain⟨w8,hw8⟩:∃ w8:World,Hid (w8=w7.setCell ⟨K,1,none⟩ (.slice ya yn yc)):=⟨_,rfl⟩
  have X8:=aa (show Bx w8 K #[.slice (some ⟨g,0,none⟩) n c,.slice ya yn yc] 44 by rw[hw8.o];exact X7.o.set 1 _);have E8:=aa (show Ex (fun b=>b=K) w7 w8 by rw[hw8.o];exact Ex.one (al (ar _ _) _ _));have h7s:w6.heap.size≤w7.heap.size:=g2.o.size;have h6s:V.heap.size≤w6.heap.size:=S6.o.d.size;have E7:=aa (show Ex (fun b=>b=K∨Value.ownBlock (.slice va vl vc)=some b) V w8 from(Ex.below S6.o.d).trans (((show Ex (fun b=>Value.ownBlock (.slice va vl vc)=some b) w6 w7 from⟨⟨g2.o.size,fun b hb hn=>g2.o.block b hb (fun e=>hn e.symm)⟩,g2.o.os,g2.o.tape,g2.o.output⟩).mono fun b _ hb=>.inr hb).trans (E8.o.mono fun b _ hb=>.inl hb)));have hbK:base≤K:=HX.o.kb;have hya:∀ k,Value.ownBlock (.slice ya yn yc)=some k→¬k=K:=fun k hk e=>by
   rcases g3.o with h9|h9
   ·rw[hk] at h9
    exact hKv.o k h9.symm e
   ·rw[hk] at h9
    have h8:=FC h9;omega
  have C8:=aa (show ClX base w8 K n (ae++[now]) now g c (.slice ya yn yc) from⟨X8.o,hbK,World.ownsRow.kept (World.ownsRow.kept (bm HX.o.nw S6.o.d) g2.o (.inr (fun e=>by
   have h9:Value.ownBlock (.slice va vl vc)=some g:=e.symm;exact(NG.o.2.2.2.1 g h9).2 rfl))) ⟨E8.o.os,E8.o.tape,E8.o.output,E8.o.size,fun b hb hn=>E8.o.block b hb (fun e=>hn (by rw[e]))⟩ (.inr (fun e=>NG.o.1 (FC e))),g1.o.ex E8.o (fun b hb _=>.inl hb) (fun k hk e=>hya k hk e),HX.o.nl,by have:=HX.o.bs;have:=E8.o.size;omega⟩)
  have B8:=aa (show Bx w8 h1 #[.int .u8 0,.int .u8 0,.int .u8 0,.int .u8 0,.int .u8 0,.int .u8 0,.int .u8 0,.int .u8 0] 25 from Ex.bx E7.o B1.o (fun e=>by
   rcases e with e|e
   ·exact hne.2.2.2.1 e
   ·exact(hne.2.2.2.2.2.2.1 h1 e).2 rfl))
  have F8:=aa (show Below base V0 w8 from DV.o.trans (E7.o.toBelow_of HX.o.bs (fun b hb=>by
   rcases hb with hb|hb
   ·rw[hb];exact hbK
   ·exact(HX.o.sn.lt b hb).1)))
  rw[←hw8.o];clear x0 x1 xf y0 y1 yf m0 m1 hne;go_wp2_with fail;exact Met.intro (jS B8 (aa ⟨rfl,aa ⟨g,c,_,C8.o⟩,F8⟩))
end
theorem vu {base:Nat} {V0 V:World} {K n:Nat} {ae:List (List B8)} {now:List B8} {g c:Nat} {va:Option Addr} {vl vc:Nat} (HX:Hid (ClX base V K n ae now g c (.slice va vl vc))) (hn1:1≤n) (hn2:n≤32) {h0 h1:Nat} {kd at_ fr:Int} {d:B8} (B0:Hid (Bx V h0 #[.int .i64 kd,.int .i64 at_,.int .i64 fr,.int .u8 d.z0,.int .u8 d.z1,.int .u8 d.z2,.int .u8 d.z3,.int .u8 d.z4,.int .u8 d.z5,.int .u8 d.z6,.int .u8 d.z7] 39)) (B1:Hid (Bx V h1 #[.int .u8 0,.int .u8 0,.int .u8 0,.int .u8 0,.int .u8 0,.int .u8 0,.int .u8 0,.int .u8 0] 25)) (DV:Hid (Below base V0 V)) (NE:Hid (h0≠g∧h0≠K∧h1≠g∧h1≠K∧h0≠h1∧base≤h1∧(∀ k,Value.ownBlock (.slice va vl vc)=some k→k≠h0∧k≠h1)∧base≤V0.heap.size)) {hv:Nat} {l:List B8} (hk:kd=8) (hlen:ae.length=hv+1) (hv6:hv≤1000000) (HL:Hid (ae[hv]?=some l)) {u1 u2 u6 u7 u8 u9 u10 u11 u12 u13 u14 u15 u16 u17 u18 u19 u20 u21 u22 u23 u24 u25 u26 u27 u28 u29 u30 u31 u32 u33 u34 u35 u36 u37 u38 u39 u40 u41 u42 u43 u44 u45 u46 u47 u48 u49 u50 u51 u52 u53 u54 u55 u56 u57 u58 u59 u60 u61 u62 u63 u64 u65 u66 u67 u68 u69 u70 u71 u72 u73 u74 u75 u76 u77 u78 u79 u80 u81 u82 u83 u84 u85 u86 u87 u88 u89 u90 u91 u92 u93 u94 u95 u96 u97 u98 u99 u100 u101 u102 u103 u104 u105 u106 u107:Value} :
 aA Tryz.f9 (fun e w'=>e=.returned (.tuple #[.int .i64 0,.agg #[.int .u8 0,.int .u8 0,.int .u8 0,.int .u8 0,.int .u8 0,.int .u8 0,.int .u8 0,.int .u8 0]])∧Hid (ClW base w' K n ae l)∧Hid (Below base V0 w')) 3 ⟨#[.pointer (some ⟨K,0,none⟩),u1,u2,.pointer (some ⟨h0,0,none⟩),.int .i64 0,.pointer (some ⟨h1,0,none⟩),u6,u7,u8,u9,u10,u11,u12,u13,u14,u15,u16,u17,u18,u19,u20,u21,u22,u23,u24,u25,u26,u27,u28,u29,u30,u31,u32,u33,u34,u35,u36,u37,u38,u39,u40,u41,u42,u43,u44,u45,u46,u47,u48,u49,u50,u51,u52,u53,u54,u55,u56,u57,u58,u59,u60,u61,u62,u63,u64,u65,u66,u67,u68,u69,u70,u71,u72,u73,u74,u75,u76,u77,u78,u79,u80,u81,u82,u83,u84,u85,u86,u87,u88,u89,u90,u91,u92,u93,u94,u95,u96,u97,u98,u99,u100,u101,u102,u103,u104,u105,u106,u107],[]⟩ V:=by
 have z0:=B0.o.cell 0;simp only[Fx,Fv] at z0;have hn12:1≤n∧n≤32:=⟨hn1,hn2⟩
 clear hn12;subst hk;have hne:=NE.o;have NG:=aa HX.o.ng;obtain⟨ga,gcap,la,lc,hvv,hgl,hcell,hbl,hlc⟩:=HX.o.sn.at_ HL.o;have hva:va=some ⟨ga,0,none⟩:=by injection hvv
 have hvl:vl=ae.length:=by injection hvv
 clear hvv;subst hva;obtain⟨x0,x1⟩:=Bx.two HX.o.bx;have xf:=Bx.frozen HX.o.bx;have hKV:K<V.heap.size:=Bx.lt HX.o.bx;have HBL:=aa hbl;have HLL:=aa hlen;have hhl:(hv:Int)<(vl:Int):=by rw[hvl,hlen];omega
 have HCW:=aa (show ClW base V.drew K n ae now from ClW.later ⟨g,c,_,HX.o⟩ (Below.refl _ _).drew);have hgK:¬K=ga:=fun e=>(NG.o.2.2.2.1 ga rfl).1 e.symm
 clear hbl hlc hlen hvl;refine aj rfl ?_;intro K9 hK9;go_upto_region 15 with fail
 go_region_with (first
  |(go_at_call 10;(with_reducible refine(ir base K n ae now V.drew HCW.o hv HLL.o hv6).mono ?_);rintro e w4 ⟨rfl,hw4⟩;rw[hw4];clear hw4)
  |(go_at_call 18;(with_reducible refine(zk V la n lc l HBL.o (by omega) (by omega)).mono ?_);rintro e w5 ⟨a5,c5,rfl,Q5⟩;have X5:=aa (Bx.later HX.o.bx Q5.o.d hKV);obtain⟨m0,m1⟩:=X5.o.two;have mf:=X5.o.frozen))
 all_goals
  obtain⟨g5,ha5,hbg5,hg5,_,_⟩:=Q5.o.ow.form (by omega);subst ha5;obtain⟨w8,hw8⟩:∃ w8:World,Hid (w8=w5.setCell ⟨K,0,none⟩ (.slice (some ⟨g5,0,none⟩) n c5)):=⟨_,rfl⟩
  have X8:=aa (show Bx w8 K #[.slice (some ⟨g5,0,none⟩) n c5,.slice (some ⟨ga,0,none⟩) vl vc] 44 by rw[hw8.o];exact X5.o.set 0 _);have E8:=aa (show Ex (fun b=>b=K) w5 w8 by rw[hw8.o];exact Ex.one (al (ar _ _) _ _));have hbK:base≤K:=HX.o.kb;have hVb:=HX.o.bs;have E7:=aa (show Ex (fun b=>b=K) V w8 from(Ex.below Q5.o.d).trans E8.o);have C8:=aa (show ClX base w8 K n ae l g5 c5 (.slice (some ⟨ga,0,none⟩) vl vc) from⟨X8.o,hbK,World.ownsRow.mono (World.ownsRow.kept Q5.o.ow ⟨E8.o.os,E8.o.tape,E8.o.output,E8.o.size,fun b hb hn=>E8.o.block b hb (fun e=>hn (by rw[e]))⟩ (.inr (fun e=>by have h9:=FC e;simp at h9;omega))) hVb,((HX.o.sn.wd (Z':=fun b=>b=K∨b=g5) (fun b hb he=>by
   rcases he with he|he
   ·exact .inl he
   ·omega)).later Q5.o.d).ex E8.o (fun b hb _=>.inl hb) (fun k hk e=>(NG.o.2.2.2.1 k hk).1 e),HBL.o.1,FM hVb E7.o.size⟩)
  have B8:=aa (show Bx w8 h1 #[.int .u8 0,.int .u8 0,.int .u8 0,.int .u8 0,.int .u8 0,.int .u8 0,.int .u8 0,.int .u8 0] 25 from Ex.bx E7.o B1.o hne.2.2.2.1);have F8:=aa (show Below base V0 w8 from DV.o.trans (E7.o.toBelow_of hVb (fun b hb=>by rw[hb];exact hbK)));rw[←hw8.o];clear x0 x1 xf m0 m1 mf hne hcell;go_wp2_with fail;exact Met.intro (jS B8 (aa ⟨rfl,aa ⟨g5,c5,_,C8.o⟩,F8⟩))
theorem eX (Q:Ending→World→Prop) (K:Nat) (w:World) (kd at_ fr:Int) (d:B8)
 (h:∀ (W:World) {v1 v2 v6 v7 v8 v9 v10 v11 v12 v13 v14 v15 v16 v17 v18 v19 v20 v21 v22 v23 v24 v25 v26 v27 v28 v29 v30 v31 v32 v33 v34 v35 v36 v37 v38 v39 v40 v41 v42 v43 v44 v45 v46 v47 v48 v49 v50 v51 v52 v53 v54 v55 v56 v57 v58 v59 v60 v61 v62 v63 v64 v65 v66 v67 v68 v69 v70 v71 v72 v73 v74 v75 v76 v77 v78 v79 v80 v81 v82 v83 v84 v85 v86 v87 v88 v89 v90 v91 v92 v93 v94 v95 v96 v97 v98 v99 v100 v101 v102 v103 v104 v105 v106 v107:Value},Hid (Bx W w.heap.size #[.int .i64 kd,.int .i64 at_,.int .i64 fr,.int .u8 d.z0,.int .u8 d.z1,.int .u8 d.z2,.int .u8 d.z3,.int .u8 d.z4,.int .u8 d.z5,.int .u8 d.z6,.int .u8 d.z7] 39)→Hid (Bx W (w.heap.size+1) #[.int .u8 0,.int .u8 0,.int .u8 0,.int .u8 0,.int .u8 0,.int .u8 0,.int .u8 0,.int .u8 0] 25)→Hid (Below w.heap.size w W)→aA Tryz.f9 Q 1 ⟨#[.pointer (some ⟨K,0,none⟩),v1,v2,.pointer (some ⟨w.heap.size,0,none⟩),.int .i64 0,.pointer (some ⟨w.heap.size+1,0,none⟩),v6,v7,v8,v9,v10,v11,v12,v13,v14,v15,v16,v17,v18,v19,v20,v21,v22,v23,v24,v25,v26,v27,v28,v29,v30,v31,v32,v33,v34,v35,v36,v37,v38,v39,v40,v41,v42,v43,v44,v45,v46,v47,v48,v49,v50,v51,v52,v53,v54,v55,v56,v57,v58,v59,v60,v61,v62,v63,v64,v65,v66,v67,v68,v69,v70,v71,v72,v73,v74,v75,v76,v77,v78,v79,v80,v81,v82,v83,v84,v85,v86,v87,v88,v89,v90,v91,v92,v93,v94,v95,v96,v97,v98,v99,v100,v101,v102,v103,v104,v105,v106,v107],[]⟩ W) :
 Calls Tryz.prog 9 #[.pointer (some ⟨K,0,none⟩),.agg #[.int .i64 kd,.int .i64 at_,.int .i64 fr,.int .u8 d.z0,.int .u8 d.z1,.int .u8 d.z2,.int .u8 d.z3,.int .u8 d.z4,.int .u8 d.z5,.int .u8 d.z6,.int .u8 d.z7]] w Q:=by
 have H:=aa @h;clear h;obtain⟨W,hW⟩:∃ W:World,Hid (W=(w.alloc (.cells #[.int .i64 kd,.int .i64 at_,.int .i64 fr,.int .u8 d.z0,.int .u8 d.z1,.int .u8 d.z2,.int .u8 d.z3,.int .u8 d.z4,.int .u8 d.z5,.int .u8 d.z6,.int .u8 d.z7] 39)).alloc (.cells #[.int .u8 0,.int .u8 0,.int .u8 0,.int .u8 0,.int .u8 0,.int .u8 0,.int .u8 0,.int .u8 0] 25)):=⟨_,rfl⟩
 have D0:=aa (show Below w.heap.size w W by rw[hW.o];exact(af _ _).alloc (by simp) _);have B0:=aa (show Bx W w.heap.size #[.int .i64 kd,.int .i64 at_,.int .i64 fr,.int .u8 d.z0,.int .u8 d.z1,.int .u8 d.z2,.int .u8 d.z3,.int .u8 d.z4,.int .u8 d.z5,.int .u8 d.z6,.int .u8 d.z7] 39 by rw[hW.o];exact(Bx.new w _ _).alloc _);have B1:=aa (show Bx W (w.heap.size+1) #[.int .u8 0,.int .u8 0,.int .u8 0,.int .u8 0,.int .u8 0,.int .u8 0,.int .u8 0,.int .u8 0] 25 by
  rw[hW.o];have h9:=Bx.new (w.alloc (.cells #[.int .i64 kd,.int .i64 at_,.int .i64 fr,.int .u8 d.z0,.int .u8 d.z1,.int .u8 d.z2,.int .u8 d.z3,.int .u8 d.z4,.int .u8 d.z5,.int .u8 d.z6,.int .u8 d.z7] 39)) #[.int .u8 0,.int .u8 0,.int .u8 0,.int .u8 0,.int .u8 0,.int .u8 0,.int .u8 0,.int .u8 0] 25;rw[World.size_alloc] at h9;exact h9)
 go_enter Tryz.func9,Tryz.ntmps9;change aA Tryz.f9 Q 0 _ w;refine aj rfl ?_;intro K9 hK9;go_wp2_with fail;rw[←hW.o];exact Met.intro (H.o W B0 B1 D0)
theorem rG (base K n:Nat) (ae:List (List B8)) (now:List B8) (w:World) (hX:ClW base w K n ae now) (h1:1≤n) (h2:n≤32) (hv:Nat) (hl:ae.length=hv+1) (hv6:hv≤900) (kd at_ fr:Int) (d x:B8) (hx:x=Mx.doD n now ⟨kd,at_,fr,d⟩) :
 Calls Tryz.prog 9 #[.pointer (some ⟨K,0,none⟩),.agg #[.int .i64 kd,.int .i64 at_,.int .i64 fr,.int .u8 d.z0,.int .u8 d.z1,.int .u8 d.z2,.int .u8 d.z3,.int .u8 d.z4,.int .u8 d.z5,.int .u8 d.z6,.int .u8 d.z7]] w fun e w'=>e=.returned (.tuple #[.int .i64 (Mx.doE n ⟨kd,at_,fr,d⟩),.agg #[.int .u8 x.z0,.int .u8 x.z1,.int .u8 x.z2,.int .u8 x.z3,.int .u8 x.z4,.int .u8 x.z5,.int .u8 x.z6,.int .u8 x.z7]])∧Hid (ClW base w' K n (Mx.doS ae now ⟨kd,at_,fr,d⟩) (Mx.doN n ae now ⟨kd,at_,fr,d⟩))∧Hid (Below base w w'):=by
 obtain⟨g,c,v,X⟩:=hX;obtain⟨va,vc,hvv,hvc⟩:=X.sn.len;obtain⟨vl,hvl⟩:∃ vl:Nat,vl=ae.length:=⟨_,rfl⟩
 rw[←hvl] at hvv;subst hvv;obtain⟨ng1,ng2,ng3,ng4,_⟩:=X.ng;have hbs:=X.bs;have hKw:=Bx.lt X.bx;have XW:∀ {W:World},Below w.heap.size w W→ClX base W K n ae now g c (.slice va vl vc):=fun hb=>X.later hb
 have DW:∀ {W:World},Below w.heap.size w W→Below w.heap.size w W.drew:=fun hb=>hb.trans ((Below.refl _ _).drew.mono hb.size)
 have XD:∀ {W:World},Below w.heap.size w W→ClX base W.drew K n ae now g c (.slice va vl vc):=fun hb=>X.later (DW hb)
 have DVd:∀ {W:World},Below w.heap.size w W→Below base w W.drew:=fun hb=>(DW hb).mono hbs
 have NE:Hid (w.heap.size≠g∧w.heap.size≠K∧w.heap.size+1≠g∧w.heap.size+1≠K∧w.heap.size≠w.heap.size+1∧base≤w.heap.size+1∧(∀ k,Value.ownBlock (.slice va vl vc)=some k→k≠w.heap.size∧k≠w.heap.size+1)∧base≤w.heap.size):=aa ⟨by omega,by omega,by omega,by omega,by omega,by omega,fun k hk=>by have:=(X.sn.lt k hk).2;omega,hbs⟩;by_cases hbad:kd<0∨11≤kd
 ·have e1:Mx.doE n ⟨kd,at_,fr,d⟩=3:=by unfold Mx.doE;simp only;rw[if_neg (by omega),if_neg (by omega)]
  have e2:Mx.doS ae now ⟨kd,at_,fr,d⟩=ae:=by unfold Mx.doS;simp only;rw[if_neg (by omega)]
  have e3:Mx.doN n ae now ⟨kd,at_,fr,d⟩=now:=by unfold Mx.doN;simp only;rw[if_neg (by omega),if_neg (by omega),if_neg (by omega)]
  have e4:x=zB:=by rw[hx];unfold Mx.doD;simp only;rw[if_neg (by omega)]
  rw[e1,e2,e3];subst e4;exact eX _ K w kd at_ fr d (by intro W;intros;rename_i b0 b1 dw;exact CN (aa (XW dw.o)) h1 h2 b0 b1 (aa (dw.o.mono hbs)) (aa ⟨NE.o.1,NE.o.2.1,NE.o.2.2.1,NE.o.2.2.2.1,NE.o.2.2.2.2.1,NE.o.2.2.2.2.2.1,NE.o.2.2.2.2.2.2.1,b1.o.lt⟩) (aa hbad))
 have hk0:0≤kd∧kd≤10:=by omega
 have rest:¬kd=0→¬kd=1→¬kd=2→Calls Tryz.prog 9 #[.pointer (some ⟨K,0,none⟩),.agg #[.int .i64 kd,.int .i64 at_,.int .i64 fr,.int .u8 d.z0,.int .u8 d.z1,.int .u8 d.z2,.int .u8 d.z3,.int .u8 d.z4,.int .u8 d.z5,.int .u8 d.z6,.int .u8 d.z7]] w fun e w'=>e=.returned (.tuple #[.int .i64 (Mx.doE n ⟨kd,at_,fr,d⟩),.agg #[.int .u8 x.z0,.int .u8 x.z1,.int .u8 x.z2,.int .u8 x.z3,.int .u8 x.z4,.int .u8 x.z5,.int .u8 x.z6,.int .u8 x.z7]])∧Hid (ClW base w' K n (Mx.doS ae now ⟨kd,at_,fr,d⟩) (Mx.doN n ae now ⟨kd,at_,fr,d⟩))∧Hid (Below base w w'):=by
  intro k0 k1 k2;have hp:Hid (0≤kd∧kd≤10∧¬kd=0∧¬kd=1∧¬kd=2):=aa ⟨hk0.1,hk0.2,k0,k1,k2⟩;have e1:Mx.doE n ⟨kd,at_,fr,d⟩=0:=by unfold Mx.doE;simp only;rw[if_neg (by omega),if_pos (by omega)]
  have e4:x=zB:=by rw[hx];unfold Mx.doD;simp[k2]
  subst e4;clear hx;by_cases k3:kd=3
  ·have e2:Mx.doS ae now ⟨kd,at_,fr,d⟩=ae++[now]:=by unfold Mx.doS;simp[k3]
   have e3:Mx.doN n ae now ⟨kd,at_,fr,d⟩=now:=by unfold Mx.doN;simp[k3]
   rw[e1,e2,e3];exact eX _ K w kd at_ fr d (by intro W;intros;rename_i b0 b1 dw;exact vy (aa (XW dw.o).bx) b0 hp (by refine aa ?_;intros;exact(rF (aa (XD dw.o)) h1 h2 (aa b0.o.cf) (aa b1.o.cf) (aa (DVd dw.o)) NE k3 (by omega))))
  by_cases k8:kd=8
  ·obtain⟨l,hl2⟩:∃ l,ae[hv]?=some l:=⟨_,Ft (by omega)⟩
   have e2:Mx.doS ae now ⟨kd,at_,fr,d⟩=ae:=by unfold Mx.doS;simp[k8]
   have e3:Mx.doN n ae now ⟨kd,at_,fr,d⟩=l:=by
    unfold Mx.doN;simp only[k8];rw[if_neg (by decide),if_neg (by decide),if_pos trivial,hl,Nat.add_sub_cancel,Fu,hl2];rfl
   rw[e1,e2,e3];exact eX _ K w kd at_ fr d (by intro W;intros;rename_i b0 b1 dw;exact vy (aa (XW dw.o).bx) b0 hp (by refine aa ?_;intros;exact(vu (aa (XD dw.o)) h1 h2 (aa b0.o.cf) (aa b1.o.cf) (aa (DVd dw.o)) NE k8 hl (by omega) (aa hl2))))
  have e2:Mx.doS ae now ⟨kd,at_,fr,d⟩=ae:=by unfold Mx.doS;simp[k3]
  have e3:Mx.doN n ae now ⟨kd,at_,fr,d⟩=now:=by unfold Mx.doN;simp[k0,k1,k8]
  rw[e1,e2,e3];exact eX _ K w kd at_ fr d (by intro W;intros;rename_i b0 b1 dw;exact vy (aa (XW dw.o).bx) b0 hp (by refine aa ?_;intros;exact(xO (aa (XD dw.o)) h1 h2 (aa b0.o.cf) (aa b1.o.cf) (aa (DVd dw.o)) NE (aa ⟨k0,k1,k2,k3,k8⟩))))
 by_cases hr:Mx.inP n at_
 ·obtain⟨j,hj⟩:∃ j:Nat,at_=(j:Int):=⟨at_.toNat,by unfold Mx.inP at hr;omega⟩
  have hjl:j<n:=by unfold Mx.inP at hr;omega
  have er:Mx.cK n at_=0:=by unfold Mx.cK;rw[if_pos hr]
  have hset:∀ y:B8,Mx.dG n now at_ y=now.set j y:=fun y=>by
   unfold Mx.dG;rw[if_pos hr,hj];rfl
  by_cases k0:kd=0
  ·have e1:Mx.doE n ⟨kd,at_,fr,d⟩=0:=by unfold Mx.doE;simp[k0,er]
   have e2:Mx.doS ae now ⟨kd,at_,fr,d⟩=ae:=by unfold Mx.doS;simp[k0]
   have e3:Mx.doN n ae now ⟨kd,at_,fr,d⟩=now.set j d:=by unfold Mx.doN;simp[k0,hset]
   have e4:x=zB:=by rw[hx];unfold Mx.doD;simp[k0]
   rw[e1,e2,e3];subst e4;exact eX _ K w kd at_ fr d (by intro W;intros;rename_i b0 b1 dw;exact Ea (aa (XW dw.o).bx) b0 k0 (aa hr) (by refine aa ?_;intros;exact(vx (aa (XD dw.o)) h1 h2 (aa b0.o.cf) (aa b1.o.cf) (aa (DVd dw.o)) NE k0 hj (aa hjl))))
  by_cases k1:kd=1
  ·have e1:Mx.doE n ⟨kd,at_,fr,d⟩=0:=by unfold Mx.doE;simp[k1,er]
   have e2:Mx.doS ae now ⟨kd,at_,fr,d⟩=ae:=by unfold Mx.doS;simp[k1]
   have e3:Mx.doN n ae now ⟨kd,at_,fr,d⟩=now.set j zB:=by unfold Mx.doN;simp[k1,hset]
   have e4:x=zB:=by rw[hx];unfold Mx.doD;simp[k1]
   rw[e1,e2,e3];subst e4;exact eX _ K w kd at_ fr d (by intro W;intros;rename_i b0 b1 dw;exact Eb (aa (XW dw.o).bx) b0 k1 (aa hr) (by refine aa ?_;intros;exact(xQ (aa (XD dw.o)) h1 h2 (aa b0.o.cf) (aa b1.o.cf) (aa (DVd dw.o)) NE k1 hj (aa hjl))))
  by_cases k2:kd=2
  ·have hjn:j<now.length:=by rw[X.nl];exact hjl
   have e1:Mx.doE n ⟨kd,at_,fr,d⟩=0:=by unfold Mx.doE;simp[k2,er]
   have e2:Mx.doS ae now ⟨kd,at_,fr,d⟩=ae:=by unfold Mx.doS;simp[k2]
   have e3:Mx.doN n ae now ⟨kd,at_,fr,d⟩=now:=by unfold Mx.doN;simp[k2]
   have e4:now[j]?=some x:=by
    rw[hx];unfold Mx.doD Mx.gd;simp only[k2,if_pos];rw[if_pos hr,hj,Int.toNat_natCast,Fu,Ft hjn];rfl
   rw[e1,e2,e3];clear hx;exact eX _ K w kd at_ fr d (by intro W;intros;rename_i b0 b1 dw;exact Ec (aa (XW dw.o).bx) b0 k2 (aa hr) (by refine aa ?_;intros;exact(xP (aa (XD dw.o)) h1 h2 (aa b0.o.cf) (aa b1.o.cf) (aa (DVd dw.o)) NE k2 hj (aa hjl) (aa e4) (aa ((X.sn.wd (Z':=fun b=>(b=K∨b=g)∨b=w.heap.size+1) (fun b hb he=>by
    rcases he with he|he
    ·exact he
    ·omega)).later (DW dw.o))))))
  exact rest k0 k1 k2
 ·have hr':at_<0∨(n:Int)≤at_:=by unfold Mx.inP at hr;omega
  have er:Mx.cK n at_=1:=by unfold Mx.cK;rw[if_neg hr]
  have hset:∀ y:B8,Mx.dG n now at_ y=now:=fun y=>by unfold Mx.dG;rw[if_neg hr]
  by_cases k0:kd=0
  ·have e1:Mx.doE n ⟨kd,at_,fr,d⟩=1:=by unfold Mx.doE;simp[k0,er]
   have e2:Mx.doS ae now ⟨kd,at_,fr,d⟩=ae:=by unfold Mx.doS;simp[k0]
   have e3:Mx.doN n ae now ⟨kd,at_,fr,d⟩=now:=by unfold Mx.doN;simp[k0,hset]
   have e4:x=zB:=by rw[hx];unfold Mx.doD;simp[k0]
   rw[e1,e2,e3];subst e4;exact eX _ K w kd at_ fr d (by intro W;intros;rename_i b0 b1 dw;exact Ed (aa (XW dw.o)) h1 h2 b0 b1 (aa (dw.o.mono hbs)) NE k0 (aa hr'))
  by_cases k1:kd=1
  ·have e1:Mx.doE n ⟨kd,at_,fr,d⟩=1:=by unfold Mx.doE;simp[k1,er]
   have e2:Mx.doS ae now ⟨kd,at_,fr,d⟩=ae:=by unfold Mx.doS;simp[k1]
   have e3:Mx.doN n ae now ⟨kd,at_,fr,d⟩=now:=by unfold Mx.doN;simp[k1,hset]
   have e4:x=zB:=by rw[hx];unfold Mx.doD;simp[k1]
   rw[e1,e2,e3];subst e4;exact eX _ K w kd at_ fr d (by intro W;intros;rename_i b0 b1 dw;exact Ee (aa (XW dw.o)) h1 h2 b0 b1 (aa (dw.o.mono hbs)) NE k1 (aa hr'))
  by_cases k2:kd=2
  ·have e1:Mx.doE n ⟨kd,at_,fr,d⟩=1:=by unfold Mx.doE;simp[k2,er]
   have e2:Mx.doS ae now ⟨kd,at_,fr,d⟩=ae:=by unfold Mx.doS;simp[k2]
   have e3:Mx.doN n ae now ⟨kd,at_,fr,d⟩=now:=by unfold Mx.doN;simp[k2]
   have e4:x=zB:=by rw[hx];unfold Mx.doD Mx.gd;simp only[k2,if_pos];rw[if_neg hr]
   rw[e1,e2,e3];subst e4;exact eX _ K w kd at_ fr d (by intro W;intros;rename_i b0 b1 dw;exact Ef (aa (XW dw.o)) h1 h2 b0 b1 (aa (dw.o.mono hbs)) NE k2 (aa hr'))
  exact rest k0 k1 k2
end Go.Proofs.YtbicgjafjjihdaaGreat
