/- Part. -/
import Derived.Test.YtbicgjafjjihdaaGreatZ19
import Derived.Test.YtbicgjafjjihdaaGreatZ26
set_option maxHeartbeats 16000000
set_option maxRecDepth 100000
namespace Go.Proofs.YtbicgjafjjihdaaGreat
open Go.RowKit
theorem Mx.CJ {n:Nat} {us:List Pt} (h:∀ p∈us,0≤p.at_∧p.at_<(n:Int)):Mx.ccV n us=.nilIface:=by
 unfold Mx.ccV;rw[if_pos];rw[List.all_eq_true];intro p hp;exact Mx.iF (h p hp)
theorem iJ (S:Nat→Prop) (g n:Nat) (bl:List B8) (a0 b0:Int) (w:World) (hm:Mut S w) (hn:Nd S w g n bl a0 b0) (ua:Option Addr) (un uc:Nat) (us:List Pt) (hu:PL w ua un us) (hin:∀ p∈us,0≤p.at_∧p.at_<(n:Int)) (hun:un≤n) (a b:Int) (ha0:0≤a) (ha1:a≤2147483647) (hb0:0≤b) (hb1:b≤2147483647) :
 Calls Tryz.prog 42 #[.pointer (some ⟨g,0,none⟩),.slice ua un uc,.int .i64 a,.int .i64 b] w fun e w'=>e=.returned .nilIface∧Hid (Nd S w' g n (Mx.aD bl us) a b)∧Hid (w.grownBy w' (some g))∧Hid (Mut S w'):=by
 obtain⟨hg,h,ls,sa,sc,pa,pc,T,H,_⟩:=hn;refine(tZ g n h ls (-1) sa sc pa pc w T ua un uc us hu a b hun ha0 ha1 hb0 hb1 (Mx.CJ hin) (by omega)).mono ?_;rintro e w' (⟨rfl,hc⟩|⟨_,_,_,_,_,_,_,_,_,_,_,hl⟩)
 ·obtain⟨a1,c1,a2,pn,c2,S0,G0,L0⟩:=hc
  have hl:Mx.cR (-1) (n+4)=-1:=rfl;rw[hl] at S0;have hpn:pn=0:=S0.pl.1.symm;subst hpn;have hv:=H.view;rw[hv] at S0;have HD:=Mx.tG H rfl (by rw[Mx.cP,H.bln]:(Mx.aD bl us).length=n) ha0 ha1 hb0 hb1;have M1:=hm.dY (Ex.one G0) S0.bx nR;exact⟨rfl,aa (Nd.of S0 HD M1 hg),aa G0,aa M1⟩
 ·omega
theorem lY (S:Nat→Prop) (g n:Nat) (bl:List B8) (a b:Int) (w:World) (hn:Nd S w g n bl a b) :
 Calls Tryz.prog 37 #[.pointer (some ⟨g,0,none⟩)] w fun e w'=>∃ p,e=.returned (.tuple #[.slice (some ⟨p,0,none⟩) n n,.nilIface])∧Hid (au w' w.heap.size (.slice (some ⟨p,0,none⟩) n n) bl)∧Hid (Below w.heap.size w w'):=by
 obtain⟨_,h,ls,sa,sc,pa,pc,T,H,_⟩:=hn;refine(uY g n h ls [] (-1) sa sc pa 0 pc w T rfl (by omega)).mono ?_;rintro e w' ⟨p,rfl,h1,h2⟩;rw[H.view] at h1;exact⟨p,rfl,aa h1,aa h2⟩
theorem fj (S:Nat→Prop) (g n:Nat) (bl:List B8) (a b:Int) (w:World) (hn:Nd S w g n bl a b) :
 Calls Tryz.prog 36 #[.pointer (some ⟨g,0,none⟩)] w fun e w'=>e=.returned (.tuple #[.int .i64 a,.int .i64 b,.nilIface])∧Hid (Below w.heap.size w w'):=by
 obtain⟨_,h,ls,sa,sc,pa,pc,T,H,_⟩:=hn;refine(DH g n h ls [] (-1) sa sc pa 0 pc w T rfl (by omega) (Mx.dJ a b) H.ak.symm (Mx.As H.a0 H.a1 H.b0 H.b1)).mono ?_;rintro e w' ⟨rfl,h2⟩;rw[Mx.xu H.a0 H.a1,Mx.xw H.b0 H.b1];exact⟨rfl,aa h2⟩
theorem C9 (S:Nat→Prop) (g n:Nat) (bl:List B8) (a b:Int) (w:World) (hn:Nd S w g n bl a b) (i:Nat) (x:B8) (hx:bl[i]?=some x) :
 Calls Tryz.prog 40 #[.pointer (some ⟨g,0,none⟩),.int .i64 (i:Int)] w fun e w'=>e=.returned (.tuple #[.agg #[.int .u8 x.z0,.int .u8 x.z1,.int .u8 x.z2,.int .u8 x.z3,.int .u8 x.z4,.int .u8 x.z5,.int .u8 x.z6,.int .u8 x.z7],.nilIface])∧Hid (Below w.heap.size w w'):=by
 obtain⟨_,h,ls,sa,sc,pa,pc,T,H,_⟩:=hn;have hi:i<n:=by rw[←H.bln];exact(FE.1 hx).1
 refine(vd g n h ls [] (-1) sa sc pa 0 pc w T rfl (by omega) i hi x (by rw[H.blk i hi,Fu,hx];rfl)).mono ?_;rintro e w' ⟨rfl,h2⟩;exact⟨rfl,aa h2⟩
theorem Bi (S:Nat→Prop) (g n:Nat) (bl:List B8) (a b:Int) (w:World) (hn:Nd S w g n bl a b) (at_:Int) (ho:at_<0∨(n:Int)≤at_) :
 Calls Tryz.prog 40 #[.pointer (some ⟨g,0,none⟩),.int .i64 at_] w fun e w'=>e=.returned (.tuple #[.agg #[.int .u8 0,.int .u8 0,.int .u8 0,.int .u8 0,.int .u8 0,.int .u8 0,.int .u8 0,.int .u8 0],.iface 23 (.int .i64 1)])∧Hid (Below w.heap.size w w'):=by
 obtain⟨_,h,ls,sa,sc,pa,pc,T,H,_⟩:=hn;refine(BZ g n h ls [] (-1) sa sc pa 0 pc w T at_ ho).mono ?_;rintro e w' ⟨rfl,h2⟩;exact⟨rfl,aa h2⟩
end Go.Proofs.YtbicgjafjjihdaaGreat
