/- Part. -/
import Derived.Test.YtbicgjafjjihdaaGreatZ7
set_option maxHeartbeats 16000000
set_option maxRecDepth 100000
namespace Go.Proofs.YtbicgjafjjihdaaGreat
open Go.RowKit
theorem Ah (a:Option Addr) (n c:Nat) (l:List B8) (x:B8) (w:World) (hl:BL w a n l) (hc:n≤c) (hE:Mx.bT l=0) :
 Calls Tryz.prog 129 #[.slice a n c,.agg #[.int .u8 x.z0,.int .u8 x.z1,.int .u8 x.z2,.int .u8 x.z3,.int .u8 x.z4,.int .u8 x.z5,.int .u8 x.z6,.int .u8 x.z7]] w fun e w'=>∃ g c',e=.returned (.tuple #[.slice (some ⟨g,0,none⟩) (Mx.bg l x).length c',.nilIface])∧Hid (au w' w.heap.size (.slice (some ⟨g,0,none⟩) (Mx.bg l x).length c') (Mx.bg l x))∧Hid (Below w.heap.size w w'):=by
 have hlen:n≤maxLen:=hl.2.2.1;unfold maxLen at hlen;have HL:=aa hl;have HN:=aa hl.1;have HE:=aa hE;clear hl hE;go_enter Tryz.func129,Tryz.ntmps129;go_wp2_with fail;refine(kh a n c l _ (HL.o.later (af _ _)) hc).mono ?_;rintro e w1 ⟨rfl,hb⟩;rw[HE.o,show bD 0=Value.nilIface from rfl];have HB:=aa ((af w (.cells #[.int .u8 x.z0,.int .u8 x.z1,.int .u8 x.z2,.int .u8 x.z3,.int .u8 x.z4,.int .u8 x.z5,.int .u8 x.z6,.int .u8 x.z7] 25)).trans (hb.mono (by simp)));have X1:=aa (show Bx w1 w.heap.size #[.int .u8 x.z0,.int .u8 x.z1,.int .u8 x.z2,.int .u8 x.z3,.int .u8 x.z4,.int .u8 x.z5,.int .u8 x.z6,.int .u8 x.z7] 25 from(Bx.new w _ _).later hb (by simp));have L1:=aa (show w.heap.size+1≤w1.heap.size by have:=hb.size;simpa using this);clear hb;obtain⟨f0,f1,f2,f3,f4,f5,f6,f7⟩:=X1.o.eight;go_wp2_with fail;go_loopw [7,19] (fun v i wr=>∃ (k g c' m:Nat),k≤n∧i=.int .i64 k∧m≤8∧v=.slice (some ⟨g,0,none⟩) m c'∧Hid (m=(Mx.bg (l.take k) x).length)∧Hid (Tch w w1.heap.size w.heap.size x (Mx.bg (l.take k) x) (.slice (some ⟨g,0,none⟩) m c') wr)) (fun _ i _=>n-(intOf i).toNat)
 case atStart =>
  refine⟨0,w1.heap.size,1,1,by omega,rfl,by omega,by simp,by simp[Hid,Mx.bg],?_⟩;have ht:Mx.bg (l.take 0) x=[x]:=by simp[Mx.bg]
  rw[ht];exact⟨HB.o.alloc HB.o.size _,X1.o.alloc _,au.one w1 w1.heap.size (FG _) x,by simp⟩
 case round =>
  clear f0 f1 f2 f3 f4 f5 f6 f7;obtain⟨k,g,c',m,hk,rfl,hm8,rfl,hm,hT⟩:=hrel;by_cases hlt:k<n
  ·obtain⟨b,off,y,rfl,hb,hy,e0,e1,e2,e3,e4,e5,e6,e7⟩:=(HL.o.later hT.o.1).at_ k hlt
   obtain⟨f0,f1,f2,f3,f4,f5,f6,f7⟩:=hT.o.2.1.eight;have hxl:=hT.o.2.1.lt;have HY:=aa hy;clear hy;have heq:=fF y.z0 y.z1 y.z2 y.z3 y.z4 y.z5 y.z6 y.z7 x.z0 x.z1 x.z2 x.z3 x.z4 x.z5 x.z6 x.z7;by_cases hcc:[y.z0,y.z1,y.z2,y.z3,y.z4,y.z5,y.z6,y.z7]=[x.z0,x.z1,x.z2,x.z3,x.z4,x.z5,x.z6,x.z7]
   ·have HC:=aa (Mx.tm HY.o ((B8.eq_list y x).1 hcc))
    rw[decide_eq_true hcc] at heq;clear hcc;go_wp2_with fail;go_roundw
    case rel=>exact⟨k+1,g,c',m,by omega,by go_num,hm8,rfl,by rw[HC.o];exact hm,by rw[HC.o];exact hT.o.alloc _⟩
    case measure=>simp[intOf];omega
   ·by_cases hmlt:(m:Int)<8
    ·have HC:=aa (Mx.tn (b:=x) HY.o (fun e=>hcc ((B8.eq_list y x).2 e)) (by rw[←hm.o];omega))
     rw[decide_eq_false hcc] at heq;clear hcc;go_wp2_with (at_builtin;refine im rfl _ _ rfl w1.heap.size (Mx.bg (l.take k) x) ?c0 y ?c1 ?c2 ?c3 ?_);case c0=>exact(hT.o.alloc _).2.2.1
     case c1=>rw[World.size_alloc];rfl
     case c2=>have:=Mx.my (l.take k) x;omega
     case c3=>have:=hT.o.2.2.2;simp;omega
     intro g' c2 w' hbg hcap hown hgr;have hOP:=aa hown;have hG:=aa hgr;clear hown hgr hbg hcap e0 e1 e2 e3 e4 e5 e6 e7 f0 f1 f2 f3 f4 f5 f6 f7 heq;rw[←hm.o];go_wp2
     go_roundw
     case rel=>exact⟨k+1,g',c2,m+1,by omega,by go_num,by omega,rfl,by rw[HC.o];unfold Hid;rw[hm.o];simp,by rw[HC.o];exact Tch.grown (hT.o.alloc _) (by have:=L1.o;omega) (by have:=L1.o;omega) hG.o (by rw[hm.o];exact hOP.o)⟩
     case measure=>simp[intOf];omega
    ·have HC:=aa (Mx.tl (b:=x) HY.o (by rw[←hm.o];omega))
     rw[decide_eq_false hcc] at heq;clear hcc;go_wp2_with fail;go_roundw
     case rel=>exact⟨k+1,g,c',m,by omega,by go_num,hm8,rfl,by rw[HC.o];exact hm,by rw[HC.o];exact hT.o.alloc _⟩
     case measure=>simp[intOf];omega
  ·have HS:=aa (Mx.ui (l:=l) (k:=k) (b:=x) (by rw[HN.o];omega))
   go_wp2_with fail;exact bodyPost_ret (v:=.tuple #[.slice (some ⟨g,0,none⟩) m c',.nilIface]) (by simp[results,Tryz.results129,go_sem]) rfl ⟨g,c',by rw[←HS.o,←hm.o],by rw[←HS.o,←hm.o];exact au.lower hT.o.2.2.1 (by have:=L1.o;omega),hT.o.1⟩
end Go.Proofs.YtbicgjafjjihdaaGreat
