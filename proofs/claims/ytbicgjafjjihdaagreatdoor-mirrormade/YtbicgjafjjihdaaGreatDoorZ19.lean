/- Part. -/
import Derived.Test.YtbicgjafjjihdaaGreatDoorZ17
import Derived.Test.YtbicgjafjjihdaaGreatDoorZ18
set_option maxHeartbeats 16000000
set_option maxRecDepth 100000
namespace Go.Proofs.YtbicgjafjjihdaaGreatDoor
open Go.RowKit
theorem Mx.CQ {n:Nat} {us:List Pt} (h:∀ p∈us,0≤p.at_∧p.at_<(n:Int)):Mx.ccV n us=.nilIface:=by
 unfold Mx.ccV;rw[if_pos];rw[List.all_eq_true];intro p hp;exact Mx.iG (h p hp)
theorem iK (S:Nat→Prop) (g n:Nat) (bl:List B8) (a0 b0:Int) (w:World) (hm:Mut S w) (hn:Nd S w g n bl a0 b0) (ua:Option Addr) (un uc:Nat) (us:List Pt) (hu:PL w ua un us) (hin:∀ p∈us,0≤p.at_∧p.at_<(n:Int)) (hun:un≤n) (a b:Int) (ha0:0≤a) (ha1:a≤2147483647) (hb0:0≤b) (hb1:b≤2147483647) :
 Calls Tryz.prog 44 #[.pointer (some ⟨g,0,none⟩),.slice ua un uc,.int .i64 a,.int .i64 b] w fun e w'=>e=.returned .nilIface∧Hid (Nd S w' g n (Mx.aD bl us) a b)∧Hid (w.grownBy w' (some g))∧Hid (Mut S w'):=by
 obtain⟨hg,h,ls,sa,sc,pa,pc,T,H,_⟩:=hn;refine(ud g n h ls (-1) sa sc pa pc w T ua un uc us hu a b hun ha0 ha1 hb0 hb1 (Mx.CQ hin) (by omega)).mono ?_;rintro e w' (⟨rfl,hc⟩|⟨_,_,_,_,_,_,_,_,_,_,_,hl⟩)
 ·obtain⟨a1,c1,a2,pn,c2,S0,G0,L0⟩:=hc
  have hl:Mx.cR (-1) (n+4)=-1:=rfl;rw[hl] at S0;have hpn:pn=0:=S0.pl.1.symm;subst hpn;have hv:=H.view;rw[hv] at S0;have HD:=Mx.tH H rfl (by rw[Mx.cN,H.bln]:(Mx.aD bl us).length=n) ha0 ha1 hb0 hb1;have M1:=hm.dZ (Ex.one G0) S0.bx nS;exact⟨rfl,aa (Nd.of S0 HD M1 hg),aa G0,aa M1⟩
 ·omega
theorem lW (S:Nat→Prop) (g n:Nat) (bl:List B8) (a b:Int) (w:World) (hn:Nd S w g n bl a b) :
 Calls Tryz.prog 37 #[.pointer (some ⟨g,0,none⟩)] w fun e w'=>∃ p,e=.returned (.tuple #[.slice (some ⟨p,0,none⟩) n n,.nilIface])∧Hid (au w' w.heap.size (.slice (some ⟨p,0,none⟩) n n) bl)∧Hid (Gq w w'):=by
 obtain⟨_,h,ls,sa,sc,pa,pc,T,H,_⟩:=hn;refine(vd g n h ls [] (-1) sa sc pa 0 pc w T rfl (by omega)).mono ?_;rintro e w' ⟨p,rfl,h1,h2⟩;rw[H.view] at h1;exact⟨p,rfl,aa h1,aa h2⟩
theorem fj (S:Nat→Prop) (g n:Nat) (bl:List B8) (a b:Int) (w:World) (hn:Nd S w g n bl a b) :
 Calls Tryz.prog 36 #[.pointer (some ⟨g,0,none⟩)] w fun e w'=>e=.returned (.tuple #[.int .i64 a,.int .i64 b,.nilIface])∧Hid (Gq w w'):=by
 obtain⟨_,h,ls,sa,sc,pa,pc,T,H,_⟩:=hn;refine(Ea g n h ls [] (-1) sa sc pa 0 pc w T rfl (by omega) (Mx.dK a b) H.al.symm (Mx.Au H.a0 H.a1 H.b0 H.b1)).mono ?_;rintro e w' ⟨rfl,h2⟩;rw[Mx.xv H.a0 H.a1,Mx.xx H.b0 H.b1];exact⟨rfl,aa h2⟩
theorem Dk (S:Nat→Prop) (g n:Nat) (bl:List B8) (a b:Int) (w:World) (hn:Nd S w g n bl a b) (i:Nat) (x:B8) (hx:bl[i]?=some x) :
 Calls Tryz.prog 42 #[.pointer (some ⟨g,0,none⟩),.int .i64 (i:Int)] w fun e w'=>e=.returned (.tuple #[.agg #[.int .u8 x.z0,.int .u8 x.z1,.int .u8 x.z2,.int .u8 x.z3,.int .u8 x.z4,.int .u8 x.z5,.int .u8 x.z6,.int .u8 x.z7],.nilIface])∧Hid (Gq w w'):=by
 obtain⟨_,h,ls,sa,sc,pa,pc,T,H,_⟩:=hn;have hi:i<n:=by rw[←H.bln];exact(Gh.1 hx).1
 refine(vg g n h ls [] (-1) sa sc pa 0 pc w T rfl (by omega) i hi x (by rw[H.blk i hi,Ga,hx];rfl)).mono ?_;rintro e w' ⟨rfl,h2⟩;exact⟨rfl,aa h2⟩
theorem Bm (S:Nat→Prop) (g n:Nat) (bl:List B8) (a b:Int) (w:World) (hn:Nd S w g n bl a b) (at_:Int) (ho:at_<0∨(n:Int)≤at_) :
 Calls Tryz.prog 42 #[.pointer (some ⟨g,0,none⟩),.int .i64 at_] w fun e w'=>e=.returned (.tuple #[.agg #[.int .u8 0,.int .u8 0,.int .u8 0,.int .u8 0,.int .u8 0,.int .u8 0,.int .u8 0,.int .u8 0],.iface 28 (.int .i64 1)])∧Hid (Gq w w'):=by
 obtain⟨_,h,ls,sa,sc,pa,pc,T,H,_⟩:=hn;refine(Cc g n h ls [] (-1) sa sc pa 0 pc w T at_ ho).mono ?_;rintro e w' ⟨rfl,h2⟩;exact⟨rfl,aa h2⟩
section
def SnE (S:Nat→Prop) (w:World) (n:Nat) (ae:List (List B8)) (hv:Nat) (es:List MapEntry):Prop :=
 ∀ e∈es,∃ (k:Nat) (l:List B8) (a:Option Addr) (c:Nat),e.key=.int .i64 (k:Int)∧k≤hv∧ae[k]?=some l∧e.val=.slice a n c∧BLo S w a n l∧n≤c
theorem SnE.ext {S:Nat→Prop} {w w':World} {n:Nat} {ae:List (List B8)} {hv:Nat} {es:List MapEntry} (h:SnE S w n ae hv es) (hx:Ex S w w'):SnE S w' n ae hv es:=fun e he=>by
 obtain⟨k,l,a,c,h1,h2,h3,h4,h5,h6⟩:=h e he;exact⟨k,l,a,c,h1,h2,h3,h4,h5.ext hx,h6⟩
theorem SnE.wd {S S':Nat→Prop} {w:World} {n:Nat} {ae:List (List B8)} {hv:Nat} {es:List MapEntry} (h:SnE S w n ae hv es) (hw:Wd S S' w):SnE S' w n ae hv es:=fun e he=>by
 obtain⟨k,l,a,c,h1,h2,h3,h4,h5,h6⟩:=h e he;exact⟨k,l,a,c,h1,h2,h3,h4,h5.wd hw,h6⟩
def SnK (es:List MapEntry) (lo:Int) (hv:Nat):Prop:=∀ k:Nat,lo≤(k:Int)→k≤hv→∃ e∈es,e.key=.int .i64 (k:Int)
def Snp (S:Nat→Prop) (w:World) (m n:Nat) (ae:List (List B8)) (lo:Int) (hv:Nat):Prop :=
 ∃ es ck,Mp 3 w m es ck∧SnE S w n ae hv es∧SnK es lo hv
theorem Snp.ext {S T:Nat→Prop} {w w':World} {m n:Nat} {ae:List (List B8)} {lo:Int} {hv:Nat} (h:Snp S w m n ae lo hv) (hx:Ex T w w') (hT:∀ b,T b→S b) (hm:¬T m):Snp S w' m n ae lo hv:=by
 obtain⟨es,ck,h1,h2,h3⟩:=h;exact⟨es,ck,{h1 with at_:=(hx.block m h1.ltm hm).trans h1.at_},h2.ext (hx.mono (fun b _ hb=>hT b hb)),h3⟩
theorem Snp.wd {S S':Nat→Prop} {w:World} {m n:Nat} {ae:List (List B8)} {lo:Int} {hv:Nat} (h:Snp S w m n ae lo hv) (hw:Wd S S' w):Snp S' w m n ae lo hv:=by
 obtain⟨es,ck,h1,h2,h3⟩:=h;exact⟨es,ck,h1,h2.wd hw,h3⟩
theorem Snp.low {S:Nat→Prop} {w:World} {m n:Nat} {ae:List (List B8)} {lo lo':Int} {hv:Nat} (h:Snp S w m n ae lo hv) (hl:lo≤lo'):Snp S w m n ae lo' hv:=by
 obtain⟨es,ck,h1,h2,h3⟩:=h;exact⟨es,ck,h1,h2,fun k hk=>h3 k (by omega)⟩
theorem Snp.is {S:Nat→Prop} {w:World} {m n:Nat} {ae:List (List B8)} {lo:Int} {hv:Nat} (h:Snp S w m n ae lo hv):∃ es ck,w.heap[m]?=some (.map es ck):=by
 obtain⟨es,ck,h1,_⟩:=h;exact⟨_,_,h1.at_⟩
abbrev Pf_:=Mx.Mir.Fs Fr (List B8)
def Pbx (w:World) (P g n:Nat) (num:Int) (oa:Option Addr) (on oc:Nat) (sa:Option Addr) (sn sc:Nat) (be:Bool) (m:Nat) (safe ses base:Int) (qa:Option Addr) (qn qc:Nat) (known:Bool) (goal:Int) (ha:Option Addr) (hn hc:Nat):Prop :=
 Bx w P #[.pointer (some ⟨g,0,none⟩),.int .i64 (n:Int),.int .i64 num,.slice oa on oc,.slice sa sn sc,.bool be,.map (some m),.int .i64 safe,.int .i64 ses,.int .i64 base,.slice qa qn qc,.bool known,.int .i64 goal,.slice ha hn hc] 107
section
variable {w:World} {P g n:Nat} {num:Int} {oa:Option Addr} {on oc:Nat} {sa:Option Addr} {sn sc:Nat} {be:Bool} {m:Nat} {safe ses base:Int} {qa:Option Addr} {qn qc:Nat} {known:Bool} {goal:Int} {ha:Option Addr} {hn hc:Nat}
theorem Pbx.cells (h:Pbx w P g n num oa on oc sa sn sc be m safe ses base qa qn qc known goal ha hn hc) :
 w.cell? ⟨P,0,none⟩=some (.pointer (some ⟨g,0,none⟩))∧w.cell? ⟨P,1,none⟩=some (.int .i64 (n:Int))∧w.cell? ⟨P,2,none⟩=some (.int .i64 num)∧w.cell? ⟨P,3,none⟩=some (.slice oa on oc)∧w.cell? ⟨P,4,none⟩=some (.slice sa sn sc)∧w.cell? ⟨P,5,none⟩=some (.bool be)∧w.cell? ⟨P,6,none⟩=some (.map (some m)) ∧
 w.cell? ⟨P,7,none⟩=some (.int .i64 safe)∧w.cell? ⟨P,8,none⟩=some (.int .i64 ses)∧w.cell? ⟨P,9,none⟩=some (.int .i64 base)∧w.cell? ⟨P,10,none⟩=some (.slice qa qn qc)∧w.cell? ⟨P,11,none⟩=some (.bool known)∧w.cell? ⟨P,12,none⟩=some (.int .i64 goal)∧w.cell? ⟨P,13,none⟩=some (.slice ha hn hc) :=
 ⟨Bx.cell h 0,Bx.cell h 1,Bx.cell h 2,Bx.cell h 3,Bx.cell h 4,Bx.cell h 5,Bx.cell h 6,Bx.cell h 7,Bx.cell h 8,Bx.cell h 9,Bx.cell h 10,Bx.cell h 11,Bx.cell h 12,Bx.cell h 13⟩
theorem fm:iV #[.pointer (some ⟨g,0,none⟩),.int .i64 (n:Int),.int .i64 num,.slice oa on oc,.slice sa sn sc,.bool be,.map (some m),.int .i64 safe,.int .i64 ses,.int .i64 base,.slice qa qn qc,.bool known,.int .i64 goal,.slice ha hn hc]:=by
 intro j v
 match j with
 | 0 | 1 | 2 | 3 | 4 | 5 | 6 | 7 | 8 | 9 | 10 | 11 | 12 | 13 => simp
 | j + 14 => simp
end
structure PrR (S:Nat→Prop) (w:World) (n:Nat) (ae:List (List B8)) (b:Bu) (p:Pf_) (g:Nat) (oa:Option Addr) (on oc:Nat) (sa:Option Addr) (sn sc:Nat) (m:Nat) (qa:Option Addr) (qn qc:Nat) (ha:Option Addr) (hn hc:Nat):Prop where
 nd:∃ bl,ae[p.ar]?=some bl∧Nd S w g n bl (p.ar:Int) (p.s:Int)
 bu:Buo S w oa on oc sa sn sc b.op b.se
 mp:Snp S w m n ae (b.num-(b.se.length:Int)) p.ar
 qu:FLF (cY S) w qa qn p.queue
 qc:qn≤qc
 hd:BLo S w ha hn p.had
 hc:hn≤hc
 num:b.num=(p.ar:Int)
section
variable {A S S' T:Nat→Prop} {w w':World} {P n:Nat} {ae:List (List B8)} {b:Bu} {p:Pf_} {g:Nat} {oa:Option Addr} {on oc:Nat} {sa:Option Addr} {sn sc:Nat} {m:Nat} {qa:Option Addr} {qn qc:Nat} {ha:Option Addr} {hn hc:Nat}
theorem PrR.ext (h:PrR S w n ae b p g oa on oc sa sn sc m qa qn qc ha hn hc) (hx:Ex T w w') (hT:∀ b,T b→S b) (hg:¬T g) (hm:¬T m):PrR S w' n ae b p g oa on oc sa sn sc m qa qn qc ha hn hc:=by
 have hS:=hx.mono (fun b _ hb=>hT b hb);obtain⟨bl,h1,h2⟩:=h.nd;exact⟨⟨bl,h1,h2.ext hx hT hg⟩,h.bu.ext hS,h.mp.ext hx hT hm,h.qu.oK hS,h.qc,h.hd.ext hS,h.hc,h.num⟩
theorem PrR.later (h:PrR S w n ae b p g oa on oc sa sn sc m qa qn qc ha hn hc) (hb:Gq w w'):PrR S w' n ae b p g oa on oc sa sn sc m qa qn qc ha hn hc :=
 h.ext (T:=fun _=>False) (Ex.below hb) (fun _ hh=>hh.elim) (fun hh=>hh) (fun hh=>hh)
theorem PrR.wd (h:PrR S w n ae b p g oa on oc sa sn sc m qa qn qc ha hn hc) (hw:Wd S S' w) (hg:S' g):PrR S' w n ae b p g oa on oc sa sn sc m qa qn qc ha hn hc:=by
 obtain⟨bl,h1,h2⟩:=h.nd;exact⟨⟨bl,h1,h2.wd hw hg⟩,h.bu.wd hw,h.mp.wd hw,h.qu.wd hw,h.qc,h.hd.wd hw,h.hc,h.num⟩
structure PrX (A S:Nat→Prop) (w:World) (P n:Nat) (ae:List (List B8)) (b:Bu) (p:Pf_) (g:Nat) (oa:Option Addr) (on oc:Nat) (sa:Option Addr) (sn sc:Nat) (m:Nat) (qa:Option Addr) (qn qc:Nat) (ha:Option Addr) (hn hc:Nat):Prop where
 bx:Pbx w P g n b.num oa on oc sa sn sc b.be m (p.safe:Int) (p.s:Int) (p.base:Int) qa qn qc p.known (p.goal:Int) ha hn hc
 r:PrR S w n ae b p g oa on oc sa sn sc m qa qn qc ha hn hc
 aP:A P
 ag:A g
 am:A m
 sub:∀ b,A b→S b
theorem PrX.ne (h:PrX A S w P n ae b p g oa on oc sa sn sc m qa qn qc ha hn hc):P≠g∧P≠m∧g≠m:=by
 obtain⟨bl,_,_,_,_,_,_,_,_,T,_⟩:=h.r.nd;obtain⟨es,ck,hm⟩:=h.r.mp.is;have h1:w.heap[P]?=some (.cells _ 107 (0,0)):=h.bx;have h2:w.heap[g]?=some (.cells _ 137 (0,0)):=T.bx;refine⟨?_,?_,?_⟩
 ·rintro rfl
  rw[h1] at h2;simp at h2
 ·rintro rfl
  rw[h1] at hm;cases hm
 ·rintro rfl
  rw[h2] at hm;cases hm
def PrW (A S:Nat→Prop) (w:World) (P n:Nat) (ae:List (List B8)) (b:Bu) (p:Pf_):Prop :=
 ∃ g oa on oc sa sn sc m qa qn qc ha hn hc,PrX A S w P n ae b p g oa on oc sa sn sc m qa qn qc ha hn hc
theorem PrX.frame (h:PrX A S w P n ae b p g oa on oc sa sn sc m qa qn qc ha hn hc) (hx:Ex T w w') (hT:∀ b,T b→S b) (hA:∀ b,A b→¬T b):PrX A S w' P n ae b p g oa on oc sa sn sc m qa qn qc ha hn hc :=
 ⟨Ex.bx hx h.bx (hA _ h.aP),h.r.ext hx hT (hA _ h.ag) (hA _ h.am),h.aP,h.ag,h.am,h.sub⟩
theorem PrX.wd (h:PrX A S w P n ae b p g oa on oc sa sn sc m qa qn qc ha hn hc) (hw:Wd S S' w) (hA:∀ b,A b→S' b):PrX A S' w P n ae b p g oa on oc sa sn sc m qa qn qc ha hn hc :=
 ⟨h.bx,h.r.wd hw (hA _ h.ag),h.aP,h.ag,h.am,hA⟩
theorem PrX.later (h:PrX A S w P n ae b p g oa on oc sa sn sc m qa qn qc ha hn hc) (hb:Gq w w'):PrX A S w' P n ae b p g oa on oc sa sn sc m qa qn qc ha hn hc :=
 h.frame (T:=fun _=>False) (Ex.below hb) (fun _ hh=>hh.elim) (fun _ _ hh=>hh)
theorem PrW.frame (h:PrW A S w P n ae b p) (hx:Ex T w w') (hT:∀ b,T b→S b) (hA:∀ b,A b→¬T b):PrW A S w' P n ae b p:=by
 obtain⟨g,oa,on,oc,sa,sn,sc,m,qa,qn,qc,ha,hn,hc,X⟩:=h;exact⟨g,oa,on,oc,sa,sn,sc,m,qa,qn,qc,ha,hn,hc,X.frame hx hT hA⟩
theorem PrW.wd (h:PrW A S w P n ae b p) (hw:Wd S S' w) (hA:∀ b,A b→S' b):PrW A S' w P n ae b p:=by
 obtain⟨g,oa,on,oc,sa,sn,sc,m,qa,qn,qc,ha,hn,hc,X⟩:=h;exact⟨g,oa,on,oc,sa,sn,sc,m,qa,qn,qc,ha,hn,hc,X.wd hw hA⟩
theorem PrW.later (h:PrW A S w P n ae b p) (hb:Gq w w'):PrW A S w' P n ae b p:=by
 obtain⟨g,oa,on,oc,sa,sn,sc,m,qa,qn,qc,ha,hn,hc,X⟩:=h;exact⟨g,oa,on,oc,sa,sn,sc,m,qa,qn,qc,ha,hn,hc,X.later hb⟩
end
structure PrD (A S:Nat→Prop) (w w':World) (P n:Nat) (ae:List (List B8)) (b:Bu) (p:Pf_):Prop where
 mu:Mut S w'
 pr:PrW A S w' P n ae b p
 ext:Ex A w w'
theorem uv (S:Nat→Prop) (b:Bu) (oa:Option Addr) (on oc:Nat) (sa:Option Addr) (sn sc:Nat) (n:Nat) (q:Pt) (w:World) (hm:Mut S w) (hb:Buo S w oa on oc sa sn sc b.op b.se) (hM:Mx.aK b n=0) (h0:0≤q.at_) (h1:q.at_<(n:Int)) :
 Calls Tryz.prog 41 #[.agg #[.int .i64 b.num,.slice oa on oc,.slice sa sn sc,.bool b.be],.int .i64 (n:Int),.agg #[.int .i64 q.at_,.int .u8 q.d.z0,.int .u8 q.d.z1,.int .u8 q.d.z2,.int .u8 q.d.z3,.int .u8 q.d.z4,.int .u8 q.d.z5,.int .u8 q.d.z6,.int .u8 q.d.z7]] w fun e w' =>
  ∃ oa' on' oc' sa' sn' sc',e=.returned (.tuple #[.agg #[.int .i64 b.num,.slice oa' on' oc',.slice sa' sn' sc',.bool b.be],.nilIface])∧Hid (Buo S w' oa' on' oc' sa' sn' sc' (Mx.fF b q).op (Mx.fF b q).se)∧Hid (Gq w w'):=by
 have ha:=Mx.xE (p:=q) hM (by omega);refine(uu b.num oa on oc sa sn sc b.be b.op b.se n q.at_ q.d w hb.op.1 hb.se.el (fq hM)).mono ?_;rintro e w' ⟨v,rfl,h2,h3⟩;have e1:Mx.added ⟨b.num,b.op,b.se,b.be⟩ n ⟨q.at_,q.d⟩=Mx.fF b q:=Mx.rp ha;have e2:Mx.ik ⟨b.num,b.op,b.se,b.be⟩ n ⟨q.at_,q.d⟩=0:=ha;rw[e1] at h2;rw[e2];obtain⟨oa',on',oc',sa',sn',sc',hv,hB⟩:=h2.o.buo hm (Gi _);exact⟨oa',on',oc',sa',sn',sc',by rw[hv];rfl,aa hB,h3⟩
theorem rB (S:Nat→Prop) (b:Bu) (oa:Option Addr) (on oc:Nat) (sa:Option Addr) (sn sc:Nat) (n:Nat) (q:Pt) (w:World) (hm:Mut S w) (hb:Buo S w oa on oc sa sn sc b.op b.se) (hM:Mx.aK b n=0) (h0:q.at_<0∨(n:Int)≤q.at_) :
 Calls Tryz.prog 41 #[.agg #[.int .i64 b.num,.slice oa on oc,.slice sa sn sc,.bool b.be],.int .i64 (n:Int),.agg #[.int .i64 q.at_,.int .u8 q.d.z0,.int .u8 q.d.z1,.int .u8 q.d.z2,.int .u8 q.d.z3,.int .u8 q.d.z4,.int .u8 q.d.z5,.int .u8 q.d.z6,.int .u8 q.d.z7]] w fun e w' =>
  ∃ oa' on' oc' sa' sn' sc',e=.returned (.tuple #[.agg #[.int .i64 0,.slice oa' on' oc',.slice sa' sn' sc',.bool false],.iface 28 (.int .i64 1)])∧Hid (Gq w w'):=by
 have ha:=Mx.rr (p:=q) hM h0;refine(uu b.num oa on oc sa sn sc b.be b.op b.se n q.at_ q.d w hb.op.1 hb.se.el (fq hM)).mono ?_;rintro e w' ⟨v,rfl,h2,h3⟩;have e1:Mx.added ⟨b.num,b.op,b.se,b.be⟩ n ⟨q.at_,q.d⟩=Mx.zBu:=Mx.jn ha (by omega);have e2:Mx.ik ⟨b.num,b.op,b.se,b.be⟩ n ⟨q.at_,q.d⟩=1:=ha;rw[e1] at h2;rw[e2];obtain⟨oa',on',oc',sa',sn',sc',hv,hB⟩:=h2.o.buo hm (Gi _);exact⟨oa',on',oc',sa',sn',sc',by rw[hv];rfl,h3⟩
theorem Ar (S:Nat→Prop) (b:Bu) (oa:Option Addr) (on oc:Nat) (sa:Option Addr) (sn sc:Nat) (n:Nat) (w:World) (hm:Mut S w) (hb:Buo S w oa on oc sa sn sc b.op b.se) (hM:Mx.aK b n=0) (h0:b.num≠2147483647) :
 Calls Tryz.prog 43 #[.agg #[.int .i64 b.num,.slice oa on oc,.slice sa sn sc,.bool b.be],.int .i64 (n:Int)] w fun e w' =>
  ∃ oa' on' oc' sa' sn' sc',e=.returned (.tuple #[.agg #[.int .i64 (b.num+1),.slice oa' on' oc',.slice sa' sn' sc',.bool (Mx.dA b)],.nilIface])∧Hid (Buo S w' oa' on' oc' sa' sn' sc' (Mx.bS b).op (Mx.bS b).se)∧Hid (Gq w w'):=by
 have ha:=Mx.Ae hM h0;refine(Ca b.num oa on oc sa sn sc b.be b.op b.se n w hb.op.1 hb.se.el (fq hM)).mono ?_;rintro e w' ⟨v,rfl,h2,h3⟩;have e1:Mx.j8 ⟨b.num,b.op,b.se,b.be⟩ n=Mx.bS b:=Mx.qo ha;have e2:Mx.jj ⟨b.num,b.op,b.se,b.be⟩ n=0:=ha;rw[e1] at h2;rw[e2];obtain⟨oa',on',oc',sa',sn',sc',hv,hB⟩:=h2.o.buo hm (Gi _);exact⟨oa',on',oc',sa',sn',sc',by rw[hv];rfl,aa hB,h3⟩
theorem Am (S:Nat→Prop) (b:Bu) (oa:Option Addr) (on oc:Nat) (sa:Option Addr) (sn sc:Nat) (n:Nat) (k:Int) (w:World) (hm:Mut S w) (hb:Buo S w oa on oc sa sn sc b.op b.se) (hM:Mx.aK b n=0) (h0:0≤k) (h1:k≤b.num) :
 Calls Tryz.prog 125 #[.agg #[.int .i64 b.num,.slice oa on oc,.slice sa sn sc,.bool b.be],.int .i64 (n:Int),.int .i64 k] w fun e w' =>
  ∃ oa' on' oc' sa' sn' sc',e=.returned (.tuple #[.agg #[.int .i64 b.num,.slice oa' on' oc',.slice sa' sn' sc',.bool (Mx.cE b k).be],.nilIface])∧Hid (Buo S w' oa' on' oc' sa' sn' sc' (Mx.cE b k).op (Mx.cE b k).se)∧Hid (Gq w w'):=by
 have ha:=Mx.nR (k:=k) hM (by omega);refine(AJ b.num oa on oc sa sn sc b.be b.op b.se n k w hb.op.1 hb.se.el (fq hM) hb.sc).mono ?_;rintro e w' ⟨v,rfl,h2,h3⟩;have e1:Mx.dropped ⟨b.num,b.op,b.se,b.be⟩ n k=Mx.cE b k:=Mx.nD ha;have e2:Mx.cW ⟨b.num,b.op,b.se,b.be⟩ n k=0:=ha;rw[e1] at h2;rw[e2];obtain⟨oa',on',oc',sa',sn',sc',hv,hB⟩:=h2.o.buo hm (Gi _);exact⟨oa',on',oc',sa',sn',sc',by rw[hv];rfl,aa hB,h3⟩
end
theorem gd (P:Nat) (num:Int) (w:World) (hc:w.cell? ⟨P,2,none⟩=some (.int .i64 num)) :
 Calls Tryz.prog 38 #[.pointer (some ⟨P,0,none⟩)] w fun e w'=>e=.returned (.int .i64 num)∧w'=w:=by
 go_enter Tryz.func38,Tryz.ntmps38;go_wp2_with fail;go_ret;exact⟨rfl,rfl⟩
def xb (w:World) (P:Nat) (v8 v9 Kf Jm Jp:Value):World:=((((w.setCell ⟨P,8,none⟩ v8).setCell ⟨P,9,none⟩ v9).setCell ⟨P,10,none⟩ Kf).setCell ⟨P,11,none⟩ Jm).setCell ⟨P,13,none⟩ Jp
theorem jP (w:World) (P:Nat) (v8 v9 Kf Jm Jp:Value):w.grownBy (xb w P v8 v9 Kf Jm Jp) (some P):=ak (ak (ak (ak (ak (aq w _) _ _) _ _) _ _) _ _) _ _
theorem PrX.opened {A S:Nat→Prop} {w:World} {P n:Nat} {ae:List (List B8)} {b:Bu} {g:Nat} {oa:Option Addr} {on oc:Nat} {sa:Option Addr} {sn sc:Nat} {m:Nat} {qa:Option Addr} {qn qc:Nat} {ha:Option Addr} {hn hc:Nat} {s ar safe goal:Nat} {ses0 base0:Int} {known0:Bool} (hx:Pbx w P g n b.num oa on oc sa sn sc b.be m (safe:Int) ses0 base0 qa qn qc known0 (goal:Int) ha hn hc)
 (hr:PrR S w n ae b ⟨ar,s,safe,false,goal,0,[],[]⟩ g oa on oc sa sn sc m none 0 0 none 0 0) (aP:A P) (ag:A g) (am:A m) (sub:∀ b,A b→S b) (h1:P≠g) (h2:P≠m) :
 PrX A S (xb w P (.int .i64 (s:Int)) (.int .i64 0) (.slice none 0 0) (.bool false) (.slice none 0 0)) P n ae b ⟨ar,s,safe,false,goal,0,[],[]⟩ g oa on oc sa sn sc m none 0 0 none 0 0:=by
 refine⟨?_,?_,aP,ag,am,sub⟩
 ·exact((((Bx.set hx 8 _).set 9 _).set 10 _).set 11 _).set 13 _
 ·exact hr.ext (Ex.one (jP w P _ _ _ _ _)) (fun b hb=>by rw[hb];exact sub _ aP) (fun e=>h1 e.symm) (fun e=>h2 e.symm)
theorem pZ (A S:Nat→Prop) (P n:Nat) (ae:List (List B8)) (b:Bu) (w:World) (hm:Mut S w) (g:Nat) (oa:Option Addr) (on oc:Nat) (sa:Option Addr) (sn sc:Nat) (m:Nat) (qa:Option Addr) (qn qc:Nat) (ha:Option Addr) (hn hc:Nat) (ar safe goal:Nat) (ses0 base0:Int) (known0:Bool) (s0:Int)
 (hx:Pbx w P g n b.num oa on oc sa sn sc b.be m (safe:Int) ses0 base0 qa qn qc known0 (goal:Int) ha hn hc) (bl:List B8) (hbl:ae[ar]?=some bl) (hnd:Nd S w g n bl (ar:Int) s0) (hbu:Buo S w oa on oc sa sn sc b.op b.se) (hmp:Snp S w m n ae (b.num-(b.se.length:Int)) ar) (hnum:b.num=(ar:Int)) (aP:A P) (ag:A g) (am:A m) (sub:∀ b,A b→S b) (NE:P≠g∧P≠m∧g≠m) (s:Nat) (hs:(s:Int)≤2147483647) (hh:(ar:Int)≤2147483647) :
 Calls Tryz.prog 53 #[.pointer (some ⟨P,0,none⟩),.int .i64 (s:Int)] w fun e w'=>e=.returned .nilIface∧Hid (PrD A S w w' P n ae b ⟨ar,s,safe,false,goal,0,[],[]⟩):=by
 obtain⟨x0,x1,x2,x3,x4,x5,x6,x7,x8,x9,x10,x11,x12,x13⟩:=hx.cells;have HX:=aa hx;have HM:=aa hm;have NE:=aa NE;rw[hnum] at x2;have HS:=aa hs;have HH:=aa hh;have HN:=aa hnum;have HB:=aa hbl;have HD:=aa hnd;have HU:=aa hbu;have HP:=aa hmp;clear hx hm hs hh hnum hbl hnd hbu hmp x1 x3 x4 x5 x6 x7 x8 x9 x10 x11 x12 x13;go_enter Tryz.func53,Tryz.ntmps53;go_upto_region 1 with fail
 go_region_held3 (fun w'=>w'.cell? ⟨P,0,none⟩=some (.pointer (some ⟨g,0,none⟩))∧w'.cell? ⟨P,2,none⟩=some (.int .i64 (ar:Int)))
  (first
    | with_reducible exact ⟨x0, x2⟩
    |(simp only[an];with_reducible exact⟨x0,x2⟩)
    | with_reducible exact ⟨y0, y2⟩)
  (first
    |(go_at_call 38;(with_reducible refine(gd P (ar:Int) _ (by first|exact x2|(simp only[an];exact x2))).mono ?_);rintro e wz ⟨rfl,hz⟩;obtain rfl:=hz.symm;clear hz)
    |(go_at_call 44;(with_reducible refine(iK S g n bl _ _ w.drew (HM.o.later (Below.refl _ _).drew) (HD.o.later (Below.refl _ _).drew) none 0 0 [] (PL.nil _) (fun _ h=>by simp at h) (Nat.zero_le _) (ar:Int) (s:Int) (by omega) HH.o (by omega) HS.o).mono ?_);rintro e w2 ⟨rfl,N2,G2,M2⟩;have y0:=G2.o.cell (row:=some g) (a:=⟨P,0,none⟩) x0 (fun e=>NE.o.1 (Gg e));have y2:=G2.o.cell (row:=some g) (a:=⟨P,2,none⟩) x2 (fun e=>NE.o.1 (Gg e))))
 all_goals
  clear x0 x2 y0 y2;have GW:=aa (show w.grownBy w2 (some g) from(bE (Below.refl _ _).drew (some g)).trans G2.o);have XE:=aa (Ex.one GW.o);have X2:=aa (show Pbx w2 P g n b.num oa on oc sa sn sc b.be m (safe:Int) ses0 base0 qa qn qc known0 (goal:Int) ha hn hc from Ex.bx XE.o HX.o NE.o.1);have R2:=aa (show PrR S w2 n ae b ⟨ar,s,safe,false,goal,0,[],[]⟩ g oa on oc sa sn sc m none 0 0 none 0 0 from by
   have hE:Ex S w w2:=XE.o.mono (fun b _ hb=>by rw[hb];exact sub _ ag);exact⟨⟨bl,HB.o,N2.o⟩,HU.o.ext hE,HP.o.ext XE.o (fun b hb=>by rw[hb];exact sub _ ag) (fun e=>NE.o.2.2 e.symm),FLF.nil _ w2,Gi _,BLo.nil S w2,Gi _,HN.o⟩)
  obtain⟨x0,x1,x2,x3,x4,x5,x6,x7,x8,x9,x10,x11,x12,x13⟩:=X2.o.cells;have xz:=Bx.frozen X2.o;go_wp2_with fail;have XF:=aa (PrX.opened X2.o R2.o aP ag am sub NE.o.1 NE.o.2.1);have EF:=aa (show Ex A w (xb w2 P (.int .i64 (s:Int)) (.int .i64 0) (.slice none 0 0) (.bool false) (.slice none 0 0)) from(XE.o.mono (fun b _ hb=>by rw[hb];exact ag)).trans ((Ex.one (jP w2 P _ _ _ _ _)).mono (fun b _ hb=>by rw[hb];exact aP)));have MF:=aa (M2.o.dZ (Ex.one (jP w2 P (.int .i64 (s:Int)) (.int .i64 0) (.slice none 0 0) (.bool false) (.slice none 0 0))) XF.o.bx fm);exact bodyPost_ret (v:=.nilIface) (by simp[results,Tryz.results53,go_sem]) rfl ⟨rfl,aa ⟨MF.o,⟨g,oa,on,oc,sa,sn,sc,m,_,_,_,_,_,_,XF.o⟩,EF.o⟩⟩
theorem BK (A S:Nat→Prop) (P n:Nat) (ae:List (List B8)) (b:Bu) (p:Pf_) (w:World) (hm:Mut S w) (hp:PrW A S w P n ae b p) (s:Nat) (hs:(s:Int)≤2147483647) (hh:(p.ar:Int)≤2147483647) :
 Calls Tryz.prog 53 #[.pointer (some ⟨P,0,none⟩),.int .i64 (s:Int)] w fun e w'=>e=.returned .nilIface∧Hid (PrD A S w w' P n ae b ⟨p.ar,s,p.safe,false,p.goal,0,[],[]⟩):=by
 obtain⟨g,oa,on,oc,sa,sn,sc,m,qa,qn,qc,ha,hn,hc,X⟩:=hp;obtain⟨bl,hbl,hnd⟩:=X.r.nd;exact pZ A S P n ae b w hm g oa on oc sa sn sc m qa qn qc ha hn hc p.ar p.safe p.goal p.s p.base p.known p.s X.bx bl hbl hnd X.r.bu X.r.mp X.r.num X.aP X.ag X.am X.sub X.ne s hs hh
section
variable {w:World} {base:Nat} {v:Value} {l:List Int}
theorem run_append_nil {P:Program} (base:Nat) (t ty e:TypeId) (i:TypeInfo) (size c:Nat) (ht:P.underlying t=some (.slice e)) (hi:P.info? e=some i)
 (v:Value) (n:Nat) (xs:List Value) (hown:w.ownsRow base e size v n xs):(Builtin.append_ #[t,t] ty #[v,.slice none 0 c]).run P w=.ok v w:=by
 have key:=hown.2;rcases key with ⟨h1,h2⟩|⟨g,cap,cur,h1,_,_,hle,_⟩
 ·subst h1 h2
  simp[Builtin.append_,Builtin.lenOf,Builtin.firstCells,sizeOf,typeInfo,hi,run_underlying ht]
 ·subst h1
  simp[Builtin.append_,Builtin.lenOf,Builtin.firstCells,sizeOf,typeInfo,hi,run_underlying ht,storeCells,hle]
theorem og (ty:TypeId) (base:Nat) (v:Value) (l0:List Int) (hown:aV w base v l0) (a:Option Addr) (n c:Nat) (l:List Int) (hl:ay w a n l) (h63:l0.length+n≤1000000) (hbase:base≤w.heap.size) :
 ∃ v' w',(Builtin.append_ #[47,47] ty #[v,.slice a n c]).run Tryz.prog w=.ok v' w'∧aV w' base v' (l0++l)∧w.grownBy w' v.ownBlock:=by
 obtain⟨i0,hi0,hz0,hz1,hz2⟩:=info_parts Tryz.info3;have hR:=hl.row;have hln:=hl.1;cases a with
 | none =>
  obtain⟨rfl,hx⟩:=fA hR;obtain rfl:l=[]:=List.eq_nil_of_length_eq_zero hln;exact⟨v,w,run_append_nil base 47 ty 3 i0 1 c Tryz.underlying47 hi0 v l0.length _ hown,by rw[List.append_nil];exact hown,⟨rfl,rfl,rfl,Gi _,fun _ _ _=>rfl⟩⟩
 | some ad =>
  obtain⟨v',w',hr,hown',hg,_,_⟩:=run_append_own_at (P:=Tryz.prog) w base 47 ty 3 i0 _ 1 8 Tryz.underlying47 hi0 hz0 hz1 hz2 rfl (by decide) v l0.length _ hown ad n c (l.map (Value.int .i64)) hR.1 (fun j u hj=>by
   rcases Nat.eq_zero_or_pos n with h|h
   ·subst h
    rw[gj hR] at hj;simp at hj
   ·obtain⟨b,off,hb,hlt,hc⟩:=hR.2.2 h
    cases hb
    rw[Addr.add_lit];exact hc j u hj) (fun u hu=>by
   obtain⟨z,_,rfl⟩:=List.mem_map.1 hu;rfl) (by rw[aC];omega) (by omega) hbase
  refine⟨v',w',hr,?_,hg⟩;unfold aV;rw[Ge,List.map_append,hln];exact hown'
theorem ft {ops:Array Oper} {rest:List Oper} {o:Oper} {a:Act} {Q:Exit→Act→World→Prop} (hgd:o.guard=none) (s x:Operand)
 (ho:o.op=.call {callee:=.builtin .append,args:=#[s,x],argTypes:=#[47,47]}) (base:Nat) (v:Value) (l0:List Int) (hs:a.eval s=v) (hown:aV w base v l0) (xa:Option Addr) (n c:Nat) (l:List Int) (hx:a.eval x=.slice xa n c) (hl:ay w xa n l) (h63:l0.length+n≤1000000) (hbase:base≤w.heap.size)
 (h:∀ v' w',aV w' base v' (l0++l)→w.grownBy w' v.ownBlock→wpList Tryz.prog ops Q rest (a.put o.dst v') w') :
 wpList Tryz.prog ops Q (o::rest) a w:=by
 refine wpList_plain hgd fun K hK=>?_
 obtain⟨v',w',hr,h2,h3⟩:=og o.type base v l0 hown xa n c l hl h63 hbase;unfold Oper.wp execOp;simp only[ho,resolve,invoke,builtin,Sem.run_bind,Sem.run_pure,Result.andThen_ok,List.map_toArray,List.map_cons,List.map_nil,hs,hx,hr];exact hK _ _ (h v' w' h2 h3)
theorem aV.FT (w:World) (x y z:Int):aV (w.alloc (.cells #[.int .i64 x,.int .i64 y,.int .i64 z] 3)) w.heap.size (.slice (some ⟨w.heap.size,0,none⟩) 3 3) [x,y,z] :=
 World.ownsRow_lit (base:=w.heap.size) (e:=3) (size:=1) w #[.int .i64 x,.int .i64 y,.int .i64 z] 3 (Gi _) (by rw[aC];omega) rfl
theorem aV.Fu (h:aV w base v l):∃ a c,v=.slice a l.length c∧l.length≤c∧ay w a l.length l∧∀ p,a=some p→base≤p.block:=by
 obtain⟨a,c,hv,hle,hr,hp⟩:=aA h;exact⟨a,c,hv,hle,ay.j5 rfl hr,hp⟩
theorem aV.blk (h:aV w base v l):∀ k,v.ownBlock=some k→base≤k∧k<w.heap.size:=World.ownsRow.lt h
theorem yG (ses num kd:Int) (a1 a2:Option Addr) (n1 c1 n2 c2:Nat) (nm:List Int) (w:World) (h1:ay w a1 n1 nm) (hn1:n1≤1000) :
 Calls Tryz.prog 118 #[.int .i64 ses,.int .i64 num,.agg #[.int .i64 kd,.slice a1 n1 c1,.slice a2 n2 c2]] w fun e w'=>∃ xa xc,e=.returned (.agg #[.int .i64 1,.slice xa (n1+3) xc,.slice a2 n2 c2])∧Hid (ay w' xa (n1+3) (ses::num::kd::nm))∧Hid (Gq w w'):=by
 obtain⟨W0,hW0⟩:∃ W0:World,Hid (W0=(w.alloc (.cells #[.int .i64 kd,.slice a1 n1 c1,.slice a2 n2 c2] 173)).alloc (.cells #[.int .i64 0,.slice none 0 0,.slice none 0 0] 173)):=⟨_,rfl⟩
 have X0:=aa (show Bx W0 w.heap.size #[.int .i64 kd,.slice a1 n1 c1,.slice a2 n2 c2] 173 by rw[hW0.o];exact(Bx.new w _ _).alloc _);have R0:=aa (show Bx W0 (w.heap.size+1) #[.int .i64 0,.slice none 0 0,.slice none 0 0] 173 by
  rw[hW0.o];have h:=Bx.new (w.alloc (.cells #[.int .i64 kd,.slice a1 n1 c1,.slice a2 n2 c2] 173)) #[.int .i64 0,.slice none 0 0,.slice none 0 0] 173;rw[World.size_alloc] at h;exact h)
 have D0:=aa (show Gq w W0 by rw[hW0.o];exact(af _ _).alloc (by simp) _);obtain⟨W1,hW1⟩:∃ W1:World,Hid (W1=W0.alloc (.cells #[.int .i64 ses,.int .i64 num,.int .i64 kd] 3)):=⟨_,rfl⟩
 have D1:=beA hW1;have O1:=aa (show aV W1 W0.heap.size (.slice (some ⟨W0.heap.size,0,none⟩) 3 3) [ses,num,kd] by rw[hW1.o];exact aV.FT W0 ses num kd);have I1:=aa ((h1.later D0.o).later D1.o);have HN:=aa h1.1;have hx0:w.heap.size<W0.heap.size:=X0.o.lt;have hr0:w.heap.size+1<W0.heap.size:=R0.o.lt;clear h1;obtain⟨b0,b1,b2⟩:=X0.o.three;go_enter Tryz.func118,Tryz.ntmps118;go_upto_region 1 with fail
 rw[←hW0.o];go_wp2_with (at_builtin;rw[←hW1.o];refine ft (w:=W1) rfl _ _ rfl W0.heap.size (.slice (some ⟨W0.heap.size,0,none⟩) 3 3) [ses,num,kd] rfl ?o1 a1 n1 c1 nm rfl ?o2 ?o3 ?o4 ?_);case o1=>exact O1.o
 case o2=>exact I1.o
 case o3=>simp;omega
 case o4=>exact D1.o.size
 intro v2 w2 hO2 hG2;have O2:=aa (show aV w2 W0.heap.size v2 (ses::num::kd::nm) from hO2);have D2:=aa (show Gq W0 w2 from D1.o.grown hG2 D1.o.size (fun i hi=>(O1.o.blk i hi).1));clear hO2 hG2;obtain⟨xa,xc,hv,_,hi2,ha2⟩:=O2.o.Fu;have hlen:(ses::num::kd::nm).length=n1+3:=by simp[HN.o]
 rw[hlen] at hv hi2;subst hv;have I2:=aa hi2;have A2:=aa ha2;clear hi2 ha2 hlen;have X2:=aa (X0.o.later D2.o hx0);have R2:=aa (R0.o.later D2.o hr0);clear b0 b1 b2;obtain⟨b0,b1,b2⟩:=X2.o.three;obtain⟨r0,r1,r2⟩:=R2.o.three;have rz:=R2.o.frozen;have GF:=aa (bp (aq w2 (some (w.heap.size+1))) (.int .i64 1) (.slice xa (n1+3) xc) (.slice a2 n2 c2));have IF:=aa (I2.o.grownBy GF.o (fun _ p hp e=>by have h1:=A2.o p hp;have h2:w.heap.size+1=p.block:=Gg e;omega));have BF:=aa (show Gq w (ca w2 (w.heap.size+1) (.int .i64 1) (.slice xa (n1+3) xc) (.slice a2 n2 c2)) from aF (D0.o.trans (D2.o.mono D0.o.size)) (by omega) _ _ _);go_wp2_with fail;obtain⟨t0,t1,t2⟩:=(R2.o.aH (.int .i64 1) (.slice xa (n1+3) xc) (.slice a2 n2 c2)).three;exact bodyPost_ret (v:=.agg #[.int .i64 1,.slice xa (n1+3) xc,.slice a2 n2 c2]) (by simp[results,Tryz.results118,go_sem,t0,t1,t2]) rfl ⟨xa,xc,rfl,IF,BF⟩
end
section
variable {w:World} {a:Option Addr} {n base B:Nat} {l:List Int} {v:Value}
def BR (w:World) (a:Option Addr) (n:Nat) (l:List Int):Prop:=l.length=n∧cA w a n 1 (l.map (Value.int .u8))
theorem BR.later {w w':World} {a:Option Addr} {n:Nat} {l:List Int} (h:BR w a n l) (hb:Gq w w'):BR w' a n l:=⟨h.1,h.2.later hb⟩
theorem BR.bytes (h:BR w a n l) (hb:∀ x∈l,0≤x∧x≤255):Bytes w a n l:=by
 obtain⟨h0,h1,h2,h3⟩:=h;refine⟨h0,h2,hb,fun hp=>?_⟩;obtain⟨b,off,ha,hlt,hc⟩:=h3 hp;refine⟨b,off,ha,fun i hi=>hc i _ ?_⟩;have hil:i<l.length:=by omega
 rw[List.getElem?_map,F0 hil,Ga,F0 hil];rfl
theorem Own.br (h:Own w base v l):∃ a c,v=.slice a l.length c∧l.length≤c∧BR w a l.length l∧∀ p,a=some p→base≤p.block:=by
 obtain⟨a,c,hv,hle,hr,hp⟩:=aA h;exact⟨a,c,hv,hle,⟨rfl,hr⟩,hp⟩
theorem BR.grownBy {w w':World} {a:Option Addr} {n:Nat} {l:List Int} {row:Option Nat} (h:BR w a n l) (hg:w.grownBy w' row) (hne:0<n→∀ p,a=some p→row≠some p.block):BR w' a n l:=by
 obtain⟨h0,h1,h2,h3⟩:=h;refine⟨h0,h1,h2,fun hp=>?_⟩;obtain⟨b,off,ha,hlt,hc⟩:=h3 hp;exact⟨b,off,ha,by have:=hg.size;omega,fun j u hj=>hg.cell (hc j u hj) (fun e=>hne hp _ ha e.symm)⟩
def Bn (w:World) (a:Option Addr) (k:Nat) (ls:List (List Int)):Prop :=
 ls.length=k∧k≤maxLen∧(0<k→∃ b off,a=some ⟨b,off,none⟩∧b<w.heap.size∧∀ i l,ls[i]?=some l→∃ ai ni ci,w.cell? ⟨b,off+i,none⟩=some (.slice ai ni ci)∧BR w ai ni l∧ni≤ci)
def bN (B:Nat) (w:World) (base:Nat) (v:Value) (ls:List (List Int)):Prop :=
 ∃ vs:List Value,w.ownsRow base 78 1 v ls.length vs∧∀ (i:Nat) (l:List Int),ls[i]?=some l→∃ (a:Option Addr) (n c:Nat),vs[i]?=some (.slice a n c)∧BR w a n l∧n≤c∧(0<n→∀ p,a=some p→v.ownBlock≠some p.block∧B≤p.block)
theorem Tryz.info78:(Tryz.prog.info? 78).map (fun i=>(i.zero,i.size,i.bytes))=some (some (.slice none 0 0),1,24):=by kernel_rfl
theorem bN.later {B:Nat} {w w':World} {base:Nat} {v:Value} {ls:List (List Int)} (h:bN B w base v ls) (hb:Gq w w'):bN B w' base v ls:=by
 obtain⟨vs,h1,h2⟩:=h;refine⟨vs,bm h1 hb,fun i l hl=>?_⟩;obtain⟨a,n,c,e1,e2,e3⟩:=h2 i l hl;exact⟨a,n,c,e1,e2.later hb,e3⟩
theorem bN.bn {ls:List (List Int)} (h:bN B w base v ls):∃ a c,v=.slice a ls.length c∧ls.length≤c∧Bn w a ls.length ls:=by
 obtain⟨vs,h1,h2⟩:=h;obtain⟨a,c,hv,hle,hr,_⟩:=aA h1;refine⟨a,c,hv,hle,rfl,hr.2.1,fun h0=>?_⟩;obtain⟨b,off,ha,hlt,hc⟩:=hr.2.2 h0;refine⟨b,off,ha,hlt,fun i l hl=>?_⟩;obtain⟨ai,ni,ci,e1,e2,e3,_⟩:=h2 i l hl;exact⟨ai,ni,ci,hc _ _ e1,e2,e3⟩
theorem bN.lt {B:Nat} {w:World} {base:Nat} {v:Value} {ls:List (List Int)} (h:bN B w base v ls):∀ k,v.ownBlock=some k→base≤k∧k<w.heap.size:=by
 obtain⟨vs,h1,_⟩:=h;exact World.ownsRow.lt h1
theorem bN.one (hb:base≤w.heap.size) {c:Nat} (hl:BR w a n l) (hc:n≤c) (hp:0<n→∀ p,a=some p→B≤p.block) :
 bN B (w.alloc (.cells #[.slice a n c] 78)) base (.slice (some ⟨w.heap.size,0,none⟩) 1 1) [l]:=by
 refine⟨[.slice a n c],World.ownsRow_lit (base:=base) (e:=78) (size:=1) w #[.slice a n c] 1 hb (by unfold maxLen;omega) rfl,fun i l' hl'=>?_⟩
 match i,hl' with
 | 0, hl' =>
  simp at hl';subst hl';refine⟨a,n,c,rfl,hl.later (af _ _),hc,fun h0 p hp'=>⟨fun e=>?_,hp h0 p hp'⟩⟩;obtain⟨b,off,ha,hlt,_⟩:=hl.2.2.2 h0;rw[ha] at hp';cases hp'
  simp[Value.ownBlock] at e;omega
 | i + 1, hl' => simp at hl'
theorem mZ {ops:Array Oper} {rest:List Oper} {o:Oper} {a:Act} {Q:Exit→Act→World→Prop} (hgd:o.guard=none) (s x:Operand)
 (ho:o.op=.call {callee:=.builtin .append,args:=#[s,x],argTypes:=#[118,118]}) (B base:Nat) (ls:List (List Int)) (hown:bN B w base (a.eval s) ls)
 (ad:Option Addr) (n c:Nat) (l:List Int) (hl:BR w ad n l) (hc:n≤c) (hp:0<n→∀ p,ad=some p→(a.eval s).ownBlock≠some p.block∧B≤p.block)
 (hx:a.eval x=.slice (some ⟨w.heap.size,0,none⟩) 1 1) (h63:ls.length≤1000000) (hbase:base≤w.heap.size)
 (h:∀ v' w',bN B w' base v' (ls++[l])→w.grownBy w' (a.eval s).ownBlock→wpList Tryz.prog ops Q rest (a.put o.dst v') w') :
 wpList Tryz.prog ops Q (o::rest) a (w.alloc (.cells #[.slice ad n c] 78)):=by
 obtain⟨vs,h1,h2⟩:=hown;obtain⟨i0,hi0,hz0,hz1,hz2⟩:=info_parts Tryz.info78;refine wpList_append_own_at _ hgd s x 118 ho base 78 i0 _ 1 24 Tryz.underlying118 hi0 hz0 hz1 hz2 rfl (by decide) (a.eval s) ls.length vs rfl (World.ownsRow.alloc h1 _) ⟨w.heap.size,0,none⟩ 1 1 [.slice ad n c] hx rfl (fun j u hj=>?_) (by simp[Value.oneCell']) (by unfold maxLen;omega) (by omega) (by simp;omega) ?_
 ·rw[Addr.add_lit,World.cell?_alloc_new]
  simpa using hj
 ·intro v' w' hown' hg _ hat
  have hg':w.grownBy w' (a.eval s).ownBlock:=⟨hg.os,hg.tape,hg.output,by have:=hg.size;simp at this;omega,fun k hk hne=>(hg.block k (by simp;omega) hne).trans (Below.heap_alloc w _ k hk)⟩
  have hvne:∀ (p:Addr),p.block<w.heap.size→(a.eval s).ownBlock≠some p.block→v'.ownBlock≠some p.block:=by
   intro p hlt hne e;rcases hat with h|h
   ·exact hne (h.symm.trans e)
   ·rw[h] at e
    simp at e;omega
  have fin:∀ {a':Option Addr} {n':Nat} {l':List Int},BR w a' n' l'→(0<n'→∀ p,a'=some p→(a.eval s).ownBlock≠some p.block∧B≤p.block)→BR w' a' n' l'∧(0<n'→∀ p,a'=some p→v'.ownBlock≠some p.block∧B≤p.block):=by
   intro a' n' l' hp hne;refine⟨hp.grownBy hg' (fun h0 p hpa=>(hne h0 p hpa).1),fun h0 p hpa=>⟨?_,(hne h0 p hpa).2⟩⟩;obtain⟨b,off,ha,hlt,_⟩:=hp.2.2.2 h0;have hpa':=hpa;rw[ha] at hpa;cases hpa
   exact hvne _ hlt (hne h0 _ hpa').1
  have hvl:vs.length=ls.length:=by have:=h1.1;simpa using this
  refine h v' w' ⟨vs++[.slice ad n c],by rw[Ge];exact hown',fun i l' hl'=>?_⟩ hg';by_cases hi':i<ls.length
  ·rw[Gm hi'] at hl'
   obtain⟨a',n',c',e1,e2,e3,e4⟩:=h2 i l' hl';have hf:=fin e2 e4;exact⟨a',n',c',by rw[Gm (by omega)];exact e1,hf.1,e3,hf.2⟩
  ·have hlen:i<(ls++[l]).length:=(Gh.1 hl').1
   rw[Ge,List.length_singleton] at hlen;obtain rfl:i=ls.length:=by omega
   rw[Gl (Gi _),Nat.sub_self] at hl';simp at hl';subst hl';have hf:=fin hl hp;exact⟨ad,n,c,by rw[Gl (by omega),hvl,Nat.sub_self];rfl,hf.1,hc,hf.2⟩
end
section
variable {x:Int} {nm:List Int}
namespace Mx
def Msg (l:List Int) (ses x kd:Int) (nm:List Int) (nb:Nat) (bs:List Int):Prop:=aE l 1 (ses::x::kd::nm) nb bs∧kd≤15
theorem Bk {l:List Int} {ses kd:Int} {nb:Nat} {bs:List Int} (h:aE l 1 (ses::x::kd::nm) nb bs):bZ ⟨kd,nm,nb,bs⟩=if kd≤15 then 0 else 1:=by
 have h1:=h.1;unfold may at h1;split at h1
 ·omega
 ·split at h1
  ·omega
  ·next h2 =>
   split at h1
   ·omega
   ·next h3 =>
    simp only[List.length_cons] at h2;simp only[List.any_cons,Bool.or_eq_true,not_or] at h3;have hk:bj kd=false:=by simpa using h3.2.2.1
    have hn:nm.any bj=false:=by simpa using h3.2.2.2
    have hk0:0≤kd:=by unfold bj at hk;simp at hk;omega
    by_cases h15:kd≤15
    ·rw[if_pos h15]
     refine su (f:=⟨kd,nm,nb,bs⟩) ?_ (by show ¬9<nm.length;omega);show may kd nm nb=0
     unfold may;rw[if_neg (by omega),if_neg (by omega),if_neg (by rw[hn];simp)]
    ·rw[if_neg h15]
     have h4:may kd nm nb=1:=by unfold may;rw[if_pos (by omega)]
     rw[uP (f:=⟨kd,nm,nb,bs⟩) (by show may kd nm nb≠0;omega)];exact h4
end Mx
theorem ay.Ct {w:World} {b off m:Nat} {y z:Int} (h:ay w (some ⟨b,off,none⟩) (m+3) (x::y::z::nm)):ay w (some ⟨b,off+3,none⟩) m nm:=by
 obtain⟨h1,h2,h3⟩:=h;refine⟨by simpa using h1,by omega,fun hp=>?_⟩;obtain⟨b',off',ha,hlt,hc⟩:=h3 (by omega);simp only[Option.some.injEq,Addr.mk.injEq,and_true] at ha;obtain⟨rfl,rfl⟩:=ha;refine⟨b,off+3,rfl,hlt,fun i hi=>?_⟩;have h4:=hc (i+3) (by omega);rw[show off+(i+3)=off+3+i by omega] at h4;rw[h4];rfl
def FM (w w':World) (l:List Int) (ses:Int) (e:Ending):Prop :=
 ∃ (x:Int) (v:Value) (ok:Bool),e=.returned (.tuple #[.int .i64 x,v,.bool ok])∧Hid ((ok=true∧∃ kd nm nb bs,Mx.Msg l ses x kd nm nb bs∧FrA w.heap.size w' v ⟨kd,nm,nb,bs⟩)∨(ok=false∧x=0∧v=.agg #[.int .i64 0,.slice none 0 0,.slice none 0 0]∧∀ y kd nm nb bs,¬Mx.Msg l ses y kd nm nb bs))∧Hid (Gq w w')
theorem tL (ses:Int) (a:Option Addr) (len cap:Nat) (l:List Int) (w:World) (hl:Bytes w a len l) (hlen:len≤2000) (hcap:len≤cap) :
 Calls Tryz.prog 148 #[.int .i64 ses,.slice a len cap] w fun e w'=>FM w w' l ses e:=by
 obtain⟨W0,hW0⟩:∃ W0:World,Hid (W0=w.alloc (.cells #[.int .i64 0,.slice none 0 0,.slice none 0 0] 173)):=⟨_,rfl⟩
 have R0:=bxA hW0;have D0:=beA hW0;have HL:=aa (hl.later D0.o);have S0:=aa (show W0.heap.size=w.heap.size+1 by rw[hW0.o];simp);clear hl;go_enter Tryz.func148,Tryz.ntmps148;go_wp2_with fail;rw[←hW0.o];refine(cT a len cap l W0 HL.o hlen hcap).mono ?_;rintro e w1 (⟨kd,al,nb,bs,a1,c1,a2,c2,rfl,hF,hI,hK,hA1,hA2,hC1,hC2,hB⟩|⟨rfl,hno,hB⟩)
 ·have HF:=aa hF
  have HU:=aa (show ∀ y kd' nm' nb' bs',Mx.Msg l ses y kd' nm' nb' bs'→kd=1∧al=ses::y::kd'::nm' from fun y kd' nm' nb' bs' hy=>by
   obtain⟨h1,h2,_⟩:=Mx.aE.one HF.o hy.1;exact⟨h1,h2⟩)
  obtain⟨n1,hn1⟩:∃ n1:Nat,Hid (n1=al.length):=⟨_,rfl⟩
  rw[←hn1.o] at hI hC1 ⊢;have hnb:nb≤maxLen:=hK.2.1;have hnl:n1≤maxLen:=hI.2.1;rw[aC] at hnb hnl;obtain⟨W2,hW2⟩:∃ W2:World,Hid (W2=w1.alloc (.cells #[.int .i64 kd,.slice a1 n1 c1,.slice a2 nb c2] 173)):=⟨_,rfl⟩
  have D2:=beA hW2;have F2:=bxA hW2;have R2:=aa ((R0.o.later hB R0.o.lt).later D2.o (R0.o.later hB R0.o.lt).lt);have hB2:=D0.o.trans (hB.mono D0.o.size);have B2:=aa (hB2.trans (D2.o.mono hB2.size));have HI:=aa (hI.later D2.o);have HK:=aa (hK.later D2.o);have HA1:=aa hA1;have HA2:=aa hA2;have HC1:=aa hC1;have HC2:=aa hC2;have hs01':=hB.size;clear hF hI hK hA1 hA2 hC1 hC2 hB hB2;have hs01:W0.heap.size≤w1.heap.size:=hs01';go_upto_region 2 with fail
  rw[←hW2.o];by_cases h1:kd=1
  ·subst h1
   by_cases h2:(n1:Int)<3
   ·have d2:decide ((n1:Int)<3)=true:=by simpa using h2
    have d2n:decide (n1<3)=true:=by simpa using (show n1<3 by omega)
    have HNM:=aa (show ∀ y kd nm nb bs,¬Mx.Msg l ses y kd nm nb bs from fun y kd' nm' nb' bs' hy=>by
     have h3:=(HU.o y kd' nm' nb' bs' hy).2;have h4:=hn1.o;rw[h3] at h4;simp at h4;omega)
    obtain⟨r0,r1,r2⟩:=R2.o.three;have rz:=R2.o.frozen;obtain⟨f0,f1,f2⟩:=F2.o.three;go_wp2_with fail;obtain⟨t0,t1,t2⟩:=(R2.o.aH (.int .i64 0) (.slice none 0 0) (.slice none 0 0)).three;exact bodyPost_ret (v:=.tuple #[.int .i64 0,.agg #[.int .i64 0,.slice none 0 0,.slice none 0 0],.bool false]) (by simp[results,Tryz.results148,go_sem,t0,t1,t2]) rfl ⟨0,_,false,rfl,.inr ⟨rfl,rfl,rfl,HNM.o⟩,aF B2.o (Gi _) _ _ _⟩
   ·have d2:decide ((n1:Int)<3)=false:=by simpa using h2
    have d2n:decide (n1<3)=false:=by simpa using (show ¬n1<3 by omega)
    obtain⟨y0,y1,y2,nm,hnums⟩:∃ y0 y1 y2 nm,al=y0::y1::y2::nm:=by
     match al,hn1.o with
     | [], h => simp at h; omega
     | [_], h => simp at h; omega
     | [_, _], h => simp at h; omega
     | y0 :: y1 :: y2 :: nm, _ => exact ⟨y0, y1, y2, nm, rfl⟩
    subst hnums;obtain⟨m,hm⟩:∃ m:Nat,n1=m+3:=⟨n1-3,by omega⟩
    subst hm;obtain⟨b,off,z0,hab,hblt,hx0,e0⟩:=HI.o.at_ 0 (by omega);obtain⟨b',off',z1,hab',_,hx1,e1⟩:=HI.o.at_ 1 (by omega);obtain⟨b'',off'',z2,hab'',_,hx2,e2⟩:=HI.o.at_ 2 (by omega);rw[hab] at hab' hab'';cases hab'
    cases hab''
    subst hab;have hx0':y0=z0:=hx0;have hx1':y1=z1:=hx1;have hx2':y2=z2:=hx2;subst hx0' hx1' hx2';rw[Nat.add_zero] at e0;clear hx0 hx1 hx2;have hbA:W0.heap.size≤b:=HA1.o _ rfl;by_cases h3:y0=ses
    ·subst h3
     have d3:(y0 != y0)=false:=by simp
     have HMM:=aa (Mx.Bk HF.o);have hwf:¬w.heap.size=w1.heap.size:=by have h1:=S0.o;have h2:=R0.o.lt;have h3:=F2.o.lt;have h4:=D2.o.size;intro e;have h5:W0.heap.size≤w1.heap.size:=hs01;omega
     have hwb:¬w.heap.size=b:=by have h1:=S0.o;omega
     have h03:(3:Int)≤c1:=by have h1:=HC1.o;omega
     have hi2:(2:Int)<(m:Int)+3:=by omega
     have hi1:(1:Int)<(m:Int)+3:=by omega
     have hi3:(3:Int)≤(m:Int)+3:=by omega
     obtain⟨f0,f1,f2⟩:=F2.o.three;obtain⟨r0,r1,r2⟩:=R2.o.three;have rz:=R2.o.frozen;by_cases h15:y2≤15
     ·have HM0:=aa (show Mx.bZ ⟨y2,nm,nb,bs⟩=0 by rw[HMM.o,if_pos h15])
      have HMSG:=aa (show Mx.Msg l y0 y1 y2 nm nb bs from⟨HF.o,h15⟩);clear h15;by_cases hc3:c1=3
      ·subst hc3
       obtain rfl:m=0:=by have h1:=HC1.o;omega
       have IX:=aa (show ay W2 (some ⟨b,off,none⟩) 0 nm from⟨by have h1:=HI.o.1;simpa using h1,by rw[aC];omega,fun h=>absurd h (by omega)⟩);go_upto_region 4 with fail
       go_region_held3 (fun w'=>w'.cell? ⟨w1.heap.size,1,none⟩=some (.slice (some ⟨b,off,none⟩) (0+3) 3)∧w'.cell? ⟨w1.heap.size,2,none⟩=some (.slice a2 nb c2)∧w'.cell? ⟨b,off+2,none⟩=some (.int .i64 y2))
        (first
          | with_reducible exact ⟨f1, f2, e2⟩
          |(simp only[an];with_reducible exact⟨f1,f2,e2⟩)
          |(simp only[aw hwf,aw hwb,an];with_reducible exact⟨f1,f2,e2⟩))
        (fail)
       all_goals go_upto_region 5 with fail
       all_goals
        obtain⟨W3,hW3⟩:∃ W3:World,Hid (W3=(ca W2 w.heap.size (.int .i64 y2) (.slice (some ⟨b,off,none⟩) 0 0) (.slice a2 nb c2)).drew):=⟨_,rfl⟩
        have G3:=aa (show W2.grownBy W3 (some w.heap.size) by rw[hW3.o];exact cy (bp (aq _ _) _ _ _));have R3:=aa (show Bx W3 w.heap.size #[.int .i64 y2,(.slice (some ⟨b,off,none⟩) 0 0),.slice a2 nb c2] 173 by rw[hW3.o];exact R2.o.aH _ _ _);have F3:=aa (show Bx W3 w1.heap.size #[.int .i64 1,(.slice (some ⟨b,off,none⟩) (0+3) 3),.slice a2 nb c2] 173 from(G3.o.block _ F2.o.lt (fun e=>hwf (Gg e).symm)).trans F2.o);have I3:=aa (IX.o.grownBy G3.o (fun _ p hp e=>by cases hp;exact hwb (Gg e)));have K3:=aa (HK.o.grownBy G3.o (fun _ p hp e=>by have h1:=HA2.o p hp;have h2:=S0.o;have h3:w.heap.size=p.block:=Gg e;omega));have B3:=aa (show Gq w W3 by rw[hW3.o];exact(aF B2.o (Gi _) _ _ _).drew);have E1:=aa (G3.o.cell (a:=⟨b,off+1,none⟩) e1 (fun e=>hwb (Gg e).symm));have hbl3:b<W3.heap.size:=Gf hblt G3.o.size;unfold ca at hW3;rw[←hW3.o];clear f0 f1 f2 r0 r1 r2 rz e0 e1 e2;obtain⟨r0,r1,r2⟩:=R3.o.three;go_wp2_with fail;refine(dh y2 (some ⟨b,off,none⟩) a2 0 0 nb c2 nm bs W3 I3.o K3.o.2.1).mono ?_;rintro e w4 ⟨rfl,D4⟩;have R4:=aa (R3.o.later D4 R3.o.lt);have F4:=aa (F3.o.later D4 F3.o.lt);have B4:=aa (B3.o.trans (D4.mono B3.o.size));have I4:=aa (I3.o.later D4);have K4:=aa (K3.o.later D4);have e1:=(D4.cell (p:=⟨b,off+1,none⟩) hbl3).trans E1.o;clear r0 r1 r2;obtain⟨f0,f1,f2⟩:=F4.o.three;obtain⟨r0,r1,r2⟩:=R4.o.three;have rz:=R4.o.frozen;rw[HM0.o,aG];go_upto_region 7 with fail
        go_region_held3 (fun w'=>w'.cell? ⟨w1.heap.size,1,none⟩=some (.slice (some ⟨b,off,none⟩) (0+3) 3)∧w'.cell? ⟨b,off+1,none⟩=some (.int .i64 y1)∧w'.cell? ⟨w.heap.size,0,none⟩=some (.int .i64 y2)∧w'.cell? ⟨w.heap.size,1,none⟩=some (.slice (some ⟨b,off,none⟩) 0 0)∧w'.cell? ⟨w.heap.size,2,none⟩=some (.slice a2 nb c2))
         (first
           | with_reducible exact ⟨f1, e1, r0, r1, r2⟩
           |(simp only[an];with_reducible exact⟨f1,e1,r0,r1,r2⟩)
           | exact ⟨by simp only [aw hwf, an]; exact f1, by simp only [aw hwb, an]; exact e1, (R4.o.aH _ _ _).three⟩)
         (fail)
        all_goals
         have GF:=aa (bp (aq w4 (some w.heap.size)) (.int .i64 y2) (.slice (some ⟨b,off,none⟩) 0 0) (.slice a2 nb c2));have IF:=aa (I4.o.grownBy GF.o (fun _ p hp e=>by cases hp;exact hwb (Gg e)));have KF:=aa (K4.o.grownBy GF.o (fun _ p hp e=>by have h1:=HA2.o p hp;have h2:=S0.o;have h3:w.heap.size=p.block:=Gg e;omega));have BF:=aa (aF B4.o (Gi _) (.int .i64 y2) (.slice (some ⟨b,off,none⟩) 0 0) (.slice a2 nb c2));have DR:=aa (show Below (ca w4 w.heap.size (.int .i64 y2) (.slice (some ⟨b,off,none⟩) 0 0) (.slice a2 nb c2)).heap.size (ca w4 w.heap.size (.int .i64 y2) (.slice (some ⟨b,off,none⟩) 0 0) (.slice a2 nb c2)) (ca w4 w.heap.size (.int .i64 y2) (.slice (some ⟨b,off,none⟩) 0 0) (.slice a2 nb c2)).drew from(Below.refl _ _).drew);go_wp2_with fail;obtain⟨t0,t1,t2⟩:=(R4.o.aH (.int .i64 y2) (.slice (some ⟨b,off,none⟩) 0 0) (.slice a2 nb c2)).three;exact bodyPost_ret (v:=.tuple #[.int .i64 y1,.agg #[.int .i64 y2,(.slice (some ⟨b,off,none⟩) 0 0),.slice a2 nb c2],.bool true]) (by simp[results,Tryz.results148,go_sem,t0,t1,t2]) rfl ⟨y1,_,true,rfl,.inl ⟨rfl,y2,nm,nb,bs,HMSG.o,(some ⟨b,off,none⟩),0,0,a2,c2,rfl,IF.o.later DR.o,KF.o.later DR.o,by have:=HC1.o;omega,HC2.o,fun _ p hp=>by cases hp;show w.heap.size≤b;have h9:=S0.o;omega,fun _ p hp=>by have h1:=HA2.o p hp;have h2:=S0.o;omega⟩,BF.o.drew⟩
      ·have IX:=aa HI.o.Ct
       go_upto_region 4 with fail
       go_region_held3 (fun w'=>w'.cell? ⟨w1.heap.size,1,none⟩=some (.slice (some ⟨b,off,none⟩) (m+3) c1)∧w'.cell? ⟨w1.heap.size,2,none⟩=some (.slice a2 nb c2)∧w'.cell? ⟨b,off+2,none⟩=some (.int .i64 y2))
        (first
          | with_reducible exact ⟨f1, f2, e2⟩
          |(simp only[an];with_reducible exact⟨f1,f2,e2⟩)
          |(simp only[aw hwf,aw hwb,an];with_reducible exact⟨f1,f2,e2⟩))
        (fail)
       all_goals go_upto_region 5 with fail
       all_goals
        obtain⟨W3,hW3⟩:∃ W3:World,Hid (W3=(ca W2 w.heap.size (.int .i64 y2) (.slice (some ⟨b,off+3,none⟩) m (c1-3)) (.slice a2 nb c2)).drew):=⟨_,rfl⟩
        have G3:=aa (show W2.grownBy W3 (some w.heap.size) by rw[hW3.o];exact cy (bp (aq _ _) _ _ _));have R3:=aa (show Bx W3 w.heap.size #[.int .i64 y2,(.slice (some ⟨b,off+3,none⟩) m (c1-3)),.slice a2 nb c2] 173 by rw[hW3.o];exact R2.o.aH _ _ _);have F3:=aa (show Bx W3 w1.heap.size #[.int .i64 1,(.slice (some ⟨b,off,none⟩) (m+3) c1),.slice a2 nb c2] 173 from(G3.o.block _ F2.o.lt (fun e=>hwf (Gg e).symm)).trans F2.o);have I3:=aa (IX.o.grownBy G3.o (fun _ p hp e=>by cases hp;exact hwb (Gg e)));have K3:=aa (HK.o.grownBy G3.o (fun _ p hp e=>by have h1:=HA2.o p hp;have h2:=S0.o;have h3:w.heap.size=p.block:=Gg e;omega));have B3:=aa (show Gq w W3 by rw[hW3.o];exact(aF B2.o (Gi _) _ _ _).drew);have E1:=aa (G3.o.cell (a:=⟨b,off+1,none⟩) e1 (fun e=>hwb (Gg e).symm));have hbl3:b<W3.heap.size:=Gf hblt G3.o.size;unfold ca at hW3;rw[←hW3.o];clear f0 f1 f2 r0 r1 r2 rz e0 e1 e2;obtain⟨r0,r1,r2⟩:=R3.o.three;go_wp2_with fail;refine(dh y2 (some ⟨b,off+3,none⟩) a2 m (c1-3) nb c2 nm bs W3 I3.o K3.o.2.1).mono ?_;rintro e w4 ⟨rfl,D4⟩;have R4:=aa (R3.o.later D4 R3.o.lt);have F4:=aa (F3.o.later D4 F3.o.lt);have B4:=aa (B3.o.trans (D4.mono B3.o.size));have I4:=aa (I3.o.later D4);have K4:=aa (K3.o.later D4);have e1:=(D4.cell (p:=⟨b,off+1,none⟩) hbl3).trans E1.o;clear r0 r1 r2;obtain⟨f0,f1,f2⟩:=F4.o.three;obtain⟨r0,r1,r2⟩:=R4.o.three;have rz:=R4.o.frozen;rw[HM0.o,aG];go_upto_region 7 with fail
        go_region_held3 (fun w'=>w'.cell? ⟨w1.heap.size,1,none⟩=some (.slice (some ⟨b,off,none⟩) (m+3) c1)∧w'.cell? ⟨b,off+1,none⟩=some (.int .i64 y1)∧w'.cell? ⟨w.heap.size,0,none⟩=some (.int .i64 y2)∧w'.cell? ⟨w.heap.size,1,none⟩=some (.slice (some ⟨b,off+3,none⟩) m (c1-3))∧w'.cell? ⟨w.heap.size,2,none⟩=some (.slice a2 nb c2))
         (first
           | with_reducible exact ⟨f1, e1, r0, r1, r2⟩
           |(simp only[an];with_reducible exact⟨f1,e1,r0,r1,r2⟩)
           | exact ⟨by simp only [aw hwf, an]; exact f1, by simp only [aw hwb, an]; exact e1, (R4.o.aH _ _ _).three⟩)
         (fail)
        all_goals
         have GF:=aa (bp (aq w4 (some w.heap.size)) (.int .i64 y2) (.slice (some ⟨b,off+3,none⟩) m (c1-3)) (.slice a2 nb c2));have IF:=aa (I4.o.grownBy GF.o (fun _ p hp e=>by cases hp;exact hwb (Gg e)));have KF:=aa (K4.o.grownBy GF.o (fun _ p hp e=>by have h1:=HA2.o p hp;have h2:=S0.o;have h3:w.heap.size=p.block:=Gg e;omega));have BF:=aa (aF B4.o (Gi _) (.int .i64 y2) (.slice (some ⟨b,off+3,none⟩) m (c1-3)) (.slice a2 nb c2));have DR:=aa (show Below (ca w4 w.heap.size (.int .i64 y2) (.slice (some ⟨b,off+3,none⟩) m (c1-3)) (.slice a2 nb c2)).heap.size (ca w4 w.heap.size (.int .i64 y2) (.slice (some ⟨b,off+3,none⟩) m (c1-3)) (.slice a2 nb c2)) (ca w4 w.heap.size (.int .i64 y2) (.slice (some ⟨b,off+3,none⟩) m (c1-3)) (.slice a2 nb c2)).drew from(Below.refl _ _).drew);go_wp2_with fail;obtain⟨t0,t1,t2⟩:=(R4.o.aH (.int .i64 y2) (.slice (some ⟨b,off+3,none⟩) m (c1-3)) (.slice a2 nb c2)).three;exact bodyPost_ret (v:=.tuple #[.int .i64 y1,.agg #[.int .i64 y2,(.slice (some ⟨b,off+3,none⟩) m (c1-3)),.slice a2 nb c2],.bool true]) (by simp[results,Tryz.results148,go_sem,t0,t1,t2]) rfl ⟨y1,_,true,rfl,.inl ⟨rfl,y2,nm,nb,bs,HMSG.o,(some ⟨b,off+3,none⟩),m,(c1-3),a2,c2,rfl,IF.o.later DR.o,KF.o.later DR.o,by have:=HC1.o;omega,HC2.o,fun _ p hp=>by cases hp;show w.heap.size≤b;have h9:=S0.o;omega,fun _ p hp=>by have h1:=HA2.o p hp;have h2:=S0.o;omega⟩,BF.o.drew⟩
     ·have HM1:=aa (show Mx.bZ ⟨y2,nm,nb,bs⟩=1 by rw[HMM.o,if_neg h15])
      have HNM:=aa (show ∀ y kd nm nb bs,¬Mx.Msg l y0 y kd nm nb bs from fun y kd' nm' nb' bs' hy=>by
       have h4:=(HU.o y kd' nm' nb' bs' hy).2;simp at h4;have h5:=hy.2;omega)
      clear h15;by_cases hc3:c1=3
      ·subst hc3
       obtain rfl:m=0:=by have h1:=HC1.o;omega
       have IX:=aa (show ay W2 (some ⟨b,off,none⟩) 0 nm from⟨by have h1:=HI.o.1;simpa using h1,by rw[aC];omega,fun h=>absurd h (by omega)⟩);go_upto_region 4 with fail
       go_region_held3 (fun w'=>w'.cell? ⟨w1.heap.size,1,none⟩=some (.slice (some ⟨b,off,none⟩) (0+3) 3)∧w'.cell? ⟨w1.heap.size,2,none⟩=some (.slice a2 nb c2)∧w'.cell? ⟨b,off+2,none⟩=some (.int .i64 y2))
        (first
          | with_reducible exact ⟨f1, f2, e2⟩
          |(simp only[an];with_reducible exact⟨f1,f2,e2⟩)
          |(simp only[aw hwf,aw hwb,an];with_reducible exact⟨f1,f2,e2⟩))
        (fail)
       all_goals go_upto_region 5 with fail
       all_goals
        obtain⟨W3,hW3⟩:∃ W3:World,Hid (W3=(ca W2 w.heap.size (.int .i64 y2) (.slice (some ⟨b,off,none⟩) 0 0) (.slice a2 nb c2)).drew):=⟨_,rfl⟩
        have G3:=aa (show W2.grownBy W3 (some w.heap.size) by rw[hW3.o];exact cy (bp (aq _ _) _ _ _));have R3:=aa (show Bx W3 w.heap.size #[.int .i64 y2,(.slice (some ⟨b,off,none⟩) 0 0),.slice a2 nb c2] 173 by rw[hW3.o];exact R2.o.aH _ _ _);have F3:=aa (show Bx W3 w1.heap.size #[.int .i64 1,(.slice (some ⟨b,off,none⟩) (0+3) 3),.slice a2 nb c2] 173 from(G3.o.block _ F2.o.lt (fun e=>hwf (Gg e).symm)).trans F2.o);have I3:=aa (IX.o.grownBy G3.o (fun _ p hp e=>by cases hp;exact hwb (Gg e)));have K3:=aa (HK.o.grownBy G3.o (fun _ p hp e=>by have h1:=HA2.o p hp;have h2:=S0.o;have h3:w.heap.size=p.block:=Gg e;omega));have B3:=aa (show Gq w W3 by rw[hW3.o];exact(aF B2.o (Gi _) _ _ _).drew);have E1:=aa (G3.o.cell (a:=⟨b,off+1,none⟩) e1 (fun e=>hwb (Gg e).symm));have hbl3:b<W3.heap.size:=Gf hblt G3.o.size;unfold ca at hW3;rw[←hW3.o];clear f0 f1 f2 r0 r1 r2 rz e0 e1 e2;obtain⟨r0,r1,r2⟩:=R3.o.three;go_wp2_with fail;refine(dh y2 (some ⟨b,off,none⟩) a2 0 0 nb c2 nm bs W3 I3.o K3.o.2.1).mono ?_;rintro e w4 ⟨rfl,D4⟩;have R4:=aa (R3.o.later D4 R3.o.lt);have F4:=aa (F3.o.later D4 F3.o.lt);have B4:=aa (B3.o.trans (D4.mono B3.o.size));have I4:=aa (I3.o.later D4);have K4:=aa (K3.o.later D4);have e1:=(D4.cell (p:=⟨b,off+1,none⟩) hbl3).trans E1.o;clear r0 r1 r2;obtain⟨f0,f1,f2⟩:=F4.o.three;obtain⟨r0,r1,r2⟩:=R4.o.three;have rz:=R4.o.frozen;have he1:bt 1=.iface 28 (.int .i64 1):=rfl;rw[HM1.o,he1];go_wp2_with fail;obtain⟨t0,t1,t2⟩:=(R4.o.aH (.int .i64 0) (.slice none 0 0) (.slice none 0 0)).three;exact bodyPost_ret (v:=.tuple #[.int .i64 0,.agg #[.int .i64 0,.slice none 0 0,.slice none 0 0],.bool false]) (by simp[results,Tryz.results148,go_sem,t0,t1,t2]) rfl ⟨0,_,false,rfl,.inr ⟨rfl,rfl,rfl,HNM.o⟩,aF B4.o (Gi _) _ _ _⟩
      ·have IX:=aa HI.o.Ct
       go_upto_region 4 with fail
       go_region_held3 (fun w'=>w'.cell? ⟨w1.heap.size,1,none⟩=some (.slice (some ⟨b,off,none⟩) (m+3) c1)∧w'.cell? ⟨w1.heap.size,2,none⟩=some (.slice a2 nb c2)∧w'.cell? ⟨b,off+2,none⟩=some (.int .i64 y2))
        (first
          | with_reducible exact ⟨f1, f2, e2⟩
          |(simp only[an];with_reducible exact⟨f1,f2,e2⟩)
          |(simp only[aw hwf,aw hwb,an];with_reducible exact⟨f1,f2,e2⟩))
        (fail)
       all_goals go_upto_region 5 with fail
       all_goals
        obtain⟨W3,hW3⟩:∃ W3:World,Hid (W3=(ca W2 w.heap.size (.int .i64 y2) (.slice (some ⟨b,off+3,none⟩) m (c1-3)) (.slice a2 nb c2)).drew):=⟨_,rfl⟩
        have G3:=aa (show W2.grownBy W3 (some w.heap.size) by rw[hW3.o];exact cy (bp (aq _ _) _ _ _));have R3:=aa (show Bx W3 w.heap.size #[.int .i64 y2,(.slice (some ⟨b,off+3,none⟩) m (c1-3)),.slice a2 nb c2] 173 by rw[hW3.o];exact R2.o.aH _ _ _);have F3:=aa (show Bx W3 w1.heap.size #[.int .i64 1,(.slice (some ⟨b,off,none⟩) (m+3) c1),.slice a2 nb c2] 173 from(G3.o.block _ F2.o.lt (fun e=>hwf (Gg e).symm)).trans F2.o);have I3:=aa (IX.o.grownBy G3.o (fun _ p hp e=>by cases hp;exact hwb (Gg e)));have K3:=aa (HK.o.grownBy G3.o (fun _ p hp e=>by have h1:=HA2.o p hp;have h2:=S0.o;have h3:w.heap.size=p.block:=Gg e;omega));have B3:=aa (show Gq w W3 by rw[hW3.o];exact(aF B2.o (Gi _) _ _ _).drew);have E1:=aa (G3.o.cell (a:=⟨b,off+1,none⟩) e1 (fun e=>hwb (Gg e).symm));have hbl3:b<W3.heap.size:=Gf hblt G3.o.size;unfold ca at hW3;rw[←hW3.o];clear f0 f1 f2 r0 r1 r2 rz e0 e1 e2;obtain⟨r0,r1,r2⟩:=R3.o.three;go_wp2_with fail;refine(dh y2 (some ⟨b,off+3,none⟩) a2 m (c1-3) nb c2 nm bs W3 I3.o K3.o.2.1).mono ?_;rintro e w4 ⟨rfl,D4⟩;have R4:=aa (R3.o.later D4 R3.o.lt);have F4:=aa (F3.o.later D4 F3.o.lt);have B4:=aa (B3.o.trans (D4.mono B3.o.size));have I4:=aa (I3.o.later D4);have K4:=aa (K3.o.later D4);have e1:=(D4.cell (p:=⟨b,off+1,none⟩) hbl3).trans E1.o;clear r0 r1 r2;obtain⟨f0,f1,f2⟩:=F4.o.three;obtain⟨r0,r1,r2⟩:=R4.o.three;have rz:=R4.o.frozen;have he1:bt 1=.iface 28 (.int .i64 1):=rfl;rw[HM1.o,he1];go_wp2_with fail;obtain⟨t0,t1,t2⟩:=(R4.o.aH (.int .i64 0) (.slice none 0 0) (.slice none 0 0)).three;exact bodyPost_ret (v:=.tuple #[.int .i64 0,.agg #[.int .i64 0,.slice none 0 0,.slice none 0 0],.bool false]) (by simp[results,Tryz.results148,go_sem,t0,t1,t2]) rfl ⟨0,_,false,rfl,.inr ⟨rfl,rfl,rfl,HNM.o⟩,aF B4.o (Gi _) _ _ _⟩
    ·have d3:(y0 != ses)=true:=by simpa using h3
     have HNM:=aa (show ∀ y kd nm nb bs,¬Mx.Msg l ses y kd nm nb bs from fun y kd' nm' nb' bs' hy=>by
      have h4:=(HU.o y kd' nm' nb' bs' hy).2;simp at h4;exact h3 h4.1)
     obtain⟨r0,r1,r2⟩:=R2.o.three;have rz:=R2.o.frozen;obtain⟨f0,f1,f2⟩:=F2.o.three;go_wp2_with fail;obtain⟨t0,t1,t2⟩:=(R2.o.aH (.int .i64 0) (.slice none 0 0) (.slice none 0 0)).three;exact bodyPost_ret (v:=.tuple #[.int .i64 0,.agg #[.int .i64 0,.slice none 0 0,.slice none 0 0],.bool false]) (by simp[results,Tryz.results148,go_sem,t0,t1,t2]) rfl ⟨0,_,false,rfl,.inr ⟨rfl,rfl,rfl,HNM.o⟩,aF B2.o (Gi _) _ _ _⟩
  ·have d1:(kd != 1)=true:=by simpa using h1
   have HNM:=aa (show ∀ y kd nm nb bs,¬Mx.Msg l ses y kd nm nb bs from fun y kd' nm' nb' bs' hy=>h1 (HU.o y kd' nm' nb' bs' hy).1);obtain⟨r0,r1,r2⟩:=R2.o.three;have rz:=R2.o.frozen;obtain⟨f0,f1,f2⟩:=F2.o.three;go_wp2_with fail;obtain⟨t0,t1,t2⟩:=(R2.o.aH (.int .i64 0) (.slice none 0 0) (.slice none 0 0)).three;exact bodyPost_ret (v:=.tuple #[.int .i64 0,.agg #[.int .i64 0,.slice none 0 0,.slice none 0 0],.bool false]) (by simp[results,Tryz.results148,go_sem,t0,t1,t2]) rfl ⟨0,_,false,rfl,.inr ⟨rfl,rfl,rfl,HNM.o⟩,aF B2.o (Gi _) _ _ _⟩
 ·have HNM:=aa (show ∀ y kd nm nb bs,¬Mx.Msg l ses y kd nm nb bs from fun y kd' nm' nb' bs' hy=>hno _ _ _ _ hy.1)
  obtain⟨W2,hW2⟩:∃ W2:World,Hid (W2=w1.alloc (.cells #[.int .i64 0,.slice none 0 0,.slice none 0 0] 173)):=⟨_,rfl⟩
  have D2:=beA hW2;have F2:=bxA hW2;have R2:=aa ((R0.o.later hB R0.o.lt).later D2.o (R0.o.later hB R0.o.lt).lt);have hB2:=D0.o.trans (hB.mono D0.o.size);have B2:=aa (hB2.trans (D2.o.mono hB2.size));clear hno hB hB2;go_upto_region 2 with fail
  rw[←hW2.o];obtain⟨r0,r1,r2⟩:=R2.o.three;have rz:=R2.o.frozen;obtain⟨f0,f1,f2⟩:=F2.o.three;go_wp2_with fail;obtain⟨t0,t1,t2⟩:=(R2.o.aH (.int .i64 0) (.slice none 0 0) (.slice none 0 0)).three;exact bodyPost_ret (v:=.tuple #[.int .i64 0,.agg #[.int .i64 0,.slice none 0 0,.slice none 0 0],.bool false]) (by simp[results,Tryz.results148,go_sem,t0,t1,t2]) rfl ⟨0,_,false,rfl,.inr ⟨rfl,rfl,rfl,HNM.o⟩,aF B2.o (Gi _) _ _ _⟩
end
theorem bN.nil (B:Nat) (w:World) (base:Nat):bN B w base (.slice none 0 0) []:=⟨[],World.ownsRow_nil w base _ 1,fun i e he=>by simp at he⟩
theorem bN.mono {B:Nat} {w:World} {base base':Nat} {v:Value} {ls:List (List Int)} (h:bN B w base v ls) (hb:base'≤base):bN B w base' v ls:=by
 obtain⟨vs,h1,h2⟩:=h;exact⟨vs,World.ownsRow.mono h1 hb,h2⟩
namespace Mx
def jm (s:Sd) (i:Nat):List Int:=match s.q[i]? with
 | some f => aY 1 (s.ses :: (s.base + (i : Int)) :: f.kind :: f.al) f.nb f.bs
 | none => []
theorem my {s:Sd} {i:Nat} {f:Fr} (h:s.q[i]?=some f):jm s i=aY 1 (s.ses::(s.base+(i:Int))::f.kind::f.al) f.nb f.bs:=by unfold jm;rw[h]
def fE (s:Sd) (k:Nat):List (List Int):=(List.range k).map (jm s)
theorem xB (s:Sd) (k:Nat):fE s (k+1)=fE s k++[jm s k]:=by unfold fE;rw[List.range_succ,List.map_append];rfl
theorem qy (s:Sd) (k:Nat):(fE s k).length=k:=by unfold fE;simp
def jk (s:Sd):Nat:=min s.q.length 4
def dX (s:Sd):Int:=if bD s=0 then (if 0<s.q.length∧2147483647<s.base+(jk s:Int)-1 then 1 else 0) else bD s
def eU (s:Sd):List (List Int):=if dX s=0 then fE s (jk s) else []
theorem Cb {s:Sd} (h:bD s≠0):dX s=bD s:=by unfold dX;rw[if_neg h]
theorem DY {s:Sd} {k:Nat} (h:bD s=0) (hk:k<jk s) (h2:2147483647<s.base+(k:Int)):dX s=1:=by
 unfold dX;rw[if_pos h,if_pos];unfold jk at hk ⊢;omega
theorem ve {s:Sd} (h:bD s=0) (h2:∀ k:Nat,k<jk s→s.base+(k:Int)≤2147483647):dX s=0:=by
 unfold dX;rw[if_pos h,if_neg];intro h3;have h4:=h2 (jk s-1) (by unfold jk;omega);unfold jk at h3 h4;omega
theorem yI {f:Fr} (h:may f.kind f.al f.nb=0):0≤f.kind∧f.kind≤15∧f.nb≤32∧f.al.any bj=false:=by
 unfold may at h;split at h
 ·omega
 ·next h1 =>
  split at h
  ·omega
  ·next h2 =>
   split at h
   ·omega
   ·next h3=>exact⟨by omega,by omega,by omega,by simpa using h3⟩
theorem sq {f:Fr} {ses x:Int} (h:bZ f=0) (h1:0≤ses∧ses≤2147483647) (h2:0≤x):may 1 (ses::x::f.kind::f.al) f.nb=if 2147483647<x then 1 else 0:=by
 obtain⟨h3,h4⟩:=uQ h;obtain⟨k0,k1,k2,k3⟩:=yI h3;unfold may;rw[if_neg (by omega),if_neg (by simp;omega)];have e1:bj ses=false:=by unfold bj;simp;omega
 have e3:bj f.kind=false:=by unfold bj;simp;omega
 rw[List.any_cons,List.any_cons,List.any_cons,e1,e3,k3];by_cases hx:2147483647<x
 ·rw[if_pos hx,if_pos (by unfold bj;simp;omega)]
 ·rw[if_neg hx,if_neg (by unfold bj;simp;omega)]
end Mx
theorem yF (ses base:Int) (qa:Option Addr) (qn qc:Nat) (fs:List Fr) (w:World) (hq:FL w qa qn fs) (hqc:qn≤qc) :
 Calls Tryz.prog 87 #[.agg #[.int .i64 ses,.int .i64 base,.slice qa qn qc]] w fun e w'=>∃ v,e=.returned (.tuple #[v,bt (Mx.dX ⟨ses,base,fs⟩)])∧Hid (bN w.heap.size w' w.heap.size v (Mx.eU ⟨ses,base,fs⟩))∧Hid (Gq w w'):=by
 obtain⟨W0,hW0⟩:∃ W0:World,Hid (W0=w.alloc (.cells #[.int .i64 ses,.int .i64 base,.slice qa qn qc] 105)):=⟨_,rfl⟩
 have X0:=bxA hW0;have D0:=beA hW0;have HQ:=aa (hq.later D0.o);have HN:=aa hq.1;clear hq;go_enter Tryz.func87,Tryz.ntmps87;go_wp2_with fail;rw[←hW0.o];refine(ky ses base qa qn qc fs W0 HQ.o).mono ?_;rintro e w1 ⟨rfl,D1⟩;have X1:=aa (X0.o.later D1 X0.o.lt);have B1:=aa (D0.o.trans (D1.mono D0.o.size));by_cases hm:Mx.bD ⟨ses,base,fs⟩=0
 ·have HM:=aa hm
  have HOK:=aa (Mx.mU hm);have hq64:qn≤64:=by have h1:fs.length≤64:=HOK.o.2.1;have h2:=HN.o;omega
  have hb0:0≤base:=HOK.o.1.2.2.1;have hb1:base≤2147483647:=HOK.o.1.2.2.2;rw[hm,aG];clear hm;obtain⟨x0,x1,x2⟩:=X1.o.three;have Q1:=aa (HQ.o.later D1);go_wp2_with fail;refine(oB ses base qa qn qc w1 (by omega) hqc).mono ?_;rintro e w2 ⟨rfl,D2⟩;have X2:=aa (X1.o.later D2 X1.o.lt);have B2:=aa (B1.o.trans (D2.mono B1.o.size));have Q2:=aa (Q1.o.later D2);obtain⟨M,hM⟩:∃ M:Nat,Hid (M=min qn 4):=⟨_,rfl⟩
  rw[←hM.o];have HWN:=aa (show Mx.jk ⟨ses,base,fs⟩=M by rw[hM.o,←HN.o];rfl);have hM4:M≤4:=by rw[hM.o];omega
  have hMq:M≤qn:=by rw[hM.o];omega
  have T2:=aa (Q2.o.take M hMq);clear x0 x1 x2;go_wp2_with fail;go_loopw [5,18] (fun v t wr=>∃ k:Nat,k≤M∧t=.int .i64 (k:Int)∧Hid (∀ j:Nat,j<k→base+(j:Int)≤2147483647)∧Hid (bN w.heap.size wr w2.heap.size v (Mx.fE ⟨ses,base,fs⟩ k))∧Hid (Gq w2 wr)) (fun _ t _=>M-(intOf t).toNat)
  case atStart=>exact⟨0,by omega,rfl,aa (fun j hj=>by omega),bN.nil _ _ _,Below.refl _ _⟩
  case round =>
   obtain⟨k,hk,rfl,hG,hO,hB⟩:=hrel;have BR_:=aa (B2.o.trans (hB.o.mono B2.o.size));by_cases hlt:k<M
   ·obtain⟨b,off,f,a1,n1,c1,a2,c2,hab,hblt,hx,e0,e1,e2,hi,hbk,_⟩:=(T2.o.later hB.o).at_ k hlt
    subst hab;have HX:=aa (show fs[k]?=some f by rw[List.getElem?_take,if_pos hlt] at hx;exact hx);have HMF:=aa (HOK.o.2.2 f (Gp HX.o));have HSZ:=aa (Mx.jv HMF.o);have HWR:=aa (Mx.sq (x:=base+(k:Int)) HMF.o ⟨HOK.o.1.1,HOK.o.1.2.1⟩ (by omega));have HWA:=aa (Mx.my (s:=⟨ses,base,fs⟩) HX.o);obtain⟨kd,nm,nb,bs⟩:=f;dsimp only at e0 e1 e2 hi hbk;have hn1:n1≤1000:=by have h1:nm.length≤1000:=HSZ.o.1;have h2:=hi.1;omega
    obtain⟨w3,hw3⟩:∃ w3:World,Hid (w3=wr.alloc (.cells #[.int .i64 kd,.slice a1 n1 c1,.slice a2 nb c2] 173)):=⟨_,rfl⟩
    have D3:=beA hw3;have Y3:=bxA hw3;have X3:=aa ((X2.o.later hB.o X2.o.lt).later D3.o (X2.o.later hB.o X2.o.lt).lt);have I3:=aa (hi.later D3.o);have K3:=aa (hbk.later D3.o);have O3:=aa (hO.o.later D3.o);have B3:=aa (BR_.o.trans (D3.o.mono BR_.o.size));have E3:=aa (hB.o.trans (D3.o.mono hB.o.size));have hwk:IntKind.i64.wrap (base+(k:Int))=base+(k:Int):=by rw[IntWalk.i64_left,IntWalk.wrap64_in _ (by omega)]
    clear hx hi hbk;go_upto_region 8 with fail
    rw[←hw3.o];clear e0 e1 e2;obtain⟨x0,x1,x2⟩:=X3.o.three;obtain⟨y0,y1,y2⟩:=Y3.o.three;go_wp2_with fail;refine(yG ses (base+(k:Int)) kd a1 a2 n1 c1 nb c2 nm w3 I3.o hn1).mono ?_;rintro e w4 ⟨xa,xc,rfl,I4,D4⟩;have K4:=aa (K3.o.later D4.o);have O4:=aa (O3.o.later D4.o);have B4:=aa (B3.o.trans (D4.o.mono B3.o.size));have E4:=aa (E3.o.trans (D4.o.mono E3.o.size));clear x0 x1 x2 y0 y1 y2;by_cases hbig:2147483647<base+(k:Int)
    ·have HP:=aa (show Mx.may 1 (ses::(base+(k:Int))::kd::nm) nb=1 by have h:=HWR.o;rw[if_pos hbig] at h;exact h)
     have HSE:=aa (Mx.DY (s:=⟨ses,base,fs⟩) (k:=k) HM.o (by rw[HWN.o];exact hlt) hbig);have HSL:=aa (show Mx.eU ⟨ses,base,fs⟩=[] by unfold Mx.eU;rw[HSE.o,if_neg (by decide)]);have he1:bt 1=.iface 28 (.int .i64 1):=rfl;clear hbig;go_wp2_with fail;refine(Bz 1 xa a2 (n1+3) xc nb c2 (ses::(base+(k:Int))::kd::nm) w4 I4.o K4.o.2.1 (by rw[HP.o];decide)).mono ?_;rintro e w5 ⟨rfl,D5⟩;rw[HP.o,he1];have B5:=aa (B4.o.trans (D5.mono B4.o.size));go_wp2_with fail;exact bodyPost_ret (v:=.tuple #[.slice none 0 0,.iface 28 (.int .i64 1)]) (by simp[results,Tryz.results87,go_sem]) rfl ⟨_,by rw[HSE.o]<;>rfl,by rw[HSL.o];exact bN.nil _ _ _,B5⟩
    ·have HP:=aa (show Mx.may 1 (ses::(base+(k:Int))::kd::nm) nb=0 by have h:=HWR.o;rw[if_neg hbig] at h;exact h)
     have HG:=aa (show ∀ j:Nat,j<k+1→base+(j:Int)≤2147483647 from fun j hj=>by
      by_cases hjk:j=k
      ·subst hjk
       omega
      ·exact hG.o j (by omega))
     clear hbig;go_wp2_with fail;refine(oR 1 xa a2 (n1+3) xc nb c2 (ses::(base+(k:Int))::kd::nm) bs w4 I4.o K4.o HP.o).mono ?_;rintro e w5 ⟨v5,rfl,hO5,D5⟩;obtain⟨pa,pc,hv5,hpc,hbr,hpa⟩:=hO5.br;obtain⟨pn,hpn⟩:∃ pn:Nat,Hid (pn=(Mx.aY 1 (ses::(base+(k:Int))::kd::nm) nb bs).length):=⟨_,rfl⟩
     rw[←hpn.o] at hv5 hpc hbr;subst hv5;have P5:=aa (show BR w5 pa pn (Mx.jm ⟨ses,base,fs⟩ k) by rw[HWA.o];exact hbr);have C5:=aa hpc;have B5:=aa (B4.o.trans (D5.mono B4.o.size));have E5:=aa (E4.o.trans (D5.mono E4.o.size));have O5:=aa (O4.o.later D5);have Q5:=aa (show 0<pn→∀ p,pa=some p→u5.ownBlock≠some p.block∧w.heap.size≤p.block from fun _ p hp=>⟨fun e=>by have h1:=(O4.o.lt _ e).2;have h2:=hpa p hp;omega,by have h2:=hpa p hp;have h3:=B4.o.size;omega⟩);have HTL:=aa (show(Mx.fE ⟨ses,base,fs⟩ k).length≤1000000 by rw[Mx.qy];omega);clear hpc hbr hpa hO5;go_wp2_with (at_builtin;refine mZ (w:=w5) rfl _ _ rfl w.heap.size w2.heap.size (Mx.fE ⟨ses,base,fs⟩ k) ?o1 pa pn pc (Mx.jm ⟨ses,base,fs⟩ k) ?o2 ?o3 ?o4 rfl ?o6 ?o7 ?_);case o1=>exact O5.o
     case o2=>exact P5.o
     case o3=>exact C5.o
     case o4=>exact Q5.o
     case o6=>exact HTL.o
     case o7=>exact E5.o.size
     intro v6 w6 hO6 hG6;have O6:=aa (show bN w.heap.size w6 w2.heap.size v6 (Mx.fE ⟨ses,base,fs⟩ (k+1)) by rw[Mx.xB];exact hO6);have E6:=aa (show Gq w2 w6 from E5.o.grown hG6 E5.o.size (fun i hi=>(O5.o.lt i hi).1));clear hO6 hG6;go_wp2_with fail;go_roundw
     case rel=>exact⟨k+1,by omega,by go_num,HG,O6,E6⟩
     case measure=>simp[intOf];omega
   ·obtain rfl:k=M:=by omega
    have HSE:=aa (Mx.ve (s:=⟨ses,base,fs⟩) HM.o (fun j hj=>hG.o j (by rw[HWN.o] at hj;exact hj)));have HSL:=aa (show Mx.eU ⟨ses,base,fs⟩=Mx.fE ⟨ses,base,fs⟩ k by unfold Mx.eU;rw[HSE.o,if_pos rfl,HWN.o]);go_wp2_with fail;exact bodyPost_ret (v:=.tuple #[u5,.nilIface]) (by simp[results,Tryz.results87,go_sem]) rfl ⟨_,by rw[HSE.o]<;>rfl,by rw[HSL.o];exact hO.o.mono B2.o.size,BR_⟩
 ·have HSE:=aa (Mx.Cb hm)
  have HSL:=aa (show Mx.eU ⟨ses,base,fs⟩=[] by unfold Mx.eU;rw[HSE.o,if_neg hm]);have HE:=aa (aZ hm);rw[HE.o];clear hm;go_wp2_with fail;exact bodyPost_ret (v:=.tuple #[.slice none 0 0,.iface 28 (.int .i64 (Mx.bD ⟨ses,base,fs⟩))]) (by simp[results,Tryz.results87,go_sem]) rfl ⟨_,by rw[HSE.o,HE.o],by rw[HSL.o];exact bN.nil _ _ _,B1⟩
theorem pW {w w':World} {base g:Nat} {v:Value} {l:List Int} (h:Own w base v l) (hg:w.grownBy w' (some g)) (hgb:g<base):Own w' base v l :=
 World.ownsRow.kept h hg (by
  cases hv:v.ownBlock with
  | none => exact .inl rfl
  | some k =>
   right;intro e;have h1:=(World.ownsRow.lt h k hv).1;have h2:k=g:=Gg e;omega)
theorem Bx.EM {w:World} {k g:Nat} {cs:Array Value} {t:TypeId} (h:Bx w k cs t) (hk:k≠g) (s0 s1 s2:Value):Bx (ca w g s0 s1 s2) k cs t:=((h.other _ _ hk).other _ _ hk).other _ _ hk
def FK (w w':World) (l:List Int) (ses want:Int) (e:Ending):Prop :=
 ((∃ kd nm nb bs v vb,Mx.Msg l ses want kd nm nb bs∧want<2147483647∧e=.returned (.tuple #[.agg #[.int .i64 ses,.int .i64 (want+1)],v,.bool true,vb,.nilIface])∧FrA w.heap.size w' v ⟨kd,nm,nb,bs⟩∧Own w' w.heap.size vb (Mx.aY 0 [ses,want+1] 0 [])) ∨
  (∃ x kd nm nb bs vb,Mx.Msg l ses x kd nm nb bs∧¬(x=want∧want<2147483647)∧e=.returned (.tuple #[.agg #[.int .i64 ses,.int .i64 want],.agg #[.int .i64 0,.slice none 0 0,.slice none 0 0],.bool false,vb,.nilIface])∧Own w' w.heap.size vb (Mx.aY 0 [ses,want] 0 [])) ∨
  ((∀ x kd nm nb bs,¬Mx.Msg l ses x kd nm nb bs)∧e=.returned (.tuple #[.agg #[.int .i64 ses,.int .i64 want],.agg #[.int .i64 0,.slice none 0 0,.slice none 0 0],.bool false,.slice none 0 0,.nilIface])))∧Gq w w'
theorem Mx.oN {x y:Int} (hx0:0≤x) (hx1:x≤2147483647) (hy0:0≤y) (hy1:y≤2147483647):Mx.may 0 [x,y] 0=0:=by
 unfold Mx.may;rw[if_neg (by omega),if_neg (by simp),if_neg];simp[Mx.bj];omega
theorem Bf {w v:World} {P:Ending→World→Prop} {ses nx:Int} {fb:Bool} {kd:Int} {a1:Option Addr} {n1 c1:Nat} {a2:Option Addr} {nb c2:Nat} {nm bs:List Int} (hs0:0≤ses) (hs1:ses≤2147483647) (hn0:0≤nx) (hn1:nx≤2147483647) (BL:Hid (Gq w v)) (XN:Hid (Bx v (w.heap.size+1) #[.int .i64 ses,.int .i64 nx] 91)) (XM:Hid (Bx v (w.heap.size+1+1) #[.int .i64 kd,.slice a1 n1 c1,.slice a2 nb c2] 173)) (HI:Hid (ay v a1 n1 nm)) (HK:Hid (aS v a2 nb bs)) (H1:Hid (0<n1→∀ p,a1=some p→w.heap.size+3≤p.block)) (H2:Hid (0<nb→∀ p,a2=some p→w.heap.size+3≤p.block)) (hP:Hid (∀ w' vb,Own w' w.heap.size vb (Mx.aY 0 [ses,nx] 0 [])→ay w' a1 n1 nm→aS w' a2 nb bs→Gq w w'→P (.returned (.tuple #[.agg #[.int .i64 ses,.int .i64 nx],.agg #[.int .i64 kd,.slice a1 n1 c1,.slice a2 nb c2],.bool fb,vb,.nilIface])) w')) {u0 u1 u3 u7 u8 u9 Iy Il Iv Ik Ho Gv Gw Gx Gy Gz GC GD GH GI GJ GK GL GM GO GP GQ GR GS GU GV GX GY GZ Ha Hb Hc He Hf Hg Hh Hi Hj Hk Hl Hm Hn Hp Hq Hr Hs Ht Ia Ib Ic Ie Ig Ih Ii Ij Iw Ix:Value} :
 aB Tryz.f127 P 6 ⟨#[u0,u1,.pointer (some ⟨w.heap.size,0,none⟩),u3,.pointer (some ⟨w.heap.size+1,0,none⟩),.pointer (some ⟨w.heap.size+1+1,0,none⟩),.bool fb,u7,u8,u9,Iy,Il,Iv,Ik,Ho,Gv,Gw,Gx,Gy,Gz,GC,GD,GH,GI,GJ,GK,GL,GM,GO,GP,GQ,GR,GS,GU,GV,GX,GY,GZ,Ha,Hb,Hc,He,Hf,Hg,Hh,Hi,Hj,Hk,Hl,Hm,Hn,Hp,Hq,Hr,Hs,Ht,Ia,Ib,Ic,Ie,Ig,Ih,Ii,Ij,Iw,Ix],[]⟩ v:=by
 refine aj rfl ?_;intro K hK;obtain⟨W0,hW0⟩:∃ W0:World,Hid (W0=v.alloc (.cells #[.int .i64 ses,.int .i64 nx] 3)):=⟨_,rfl⟩
 have Z0:=bxA hW0;have D0:=beA hW0;have I0:=aa (show ay W0 (some ⟨v.heap.size,0,none⟩) 2 [ses,nx] from⟨rfl,by rw[aC];omega,fun _=>⟨v.heap.size,0,rfl,Z0.o.lt,fun i hi=>by
  match i,hi with
  | 0, _ => exact Z0.o.cell 0
  | 1, _ => exact Z0.o.cell 1⟩⟩)
 have K0:=aa (show aS W0 none 0 [] from⟨rfl,by rw[aC];omega,fun _ h=>(by cases h),fun h=>absurd h (by omega)⟩);have HM:=aa (Mx.oN hs0 hs1 hn0 hn1);clear hs0 hs1 hn0 hn1;obtain⟨x0,x1⟩:=XN.o.pair;go_wp2_with fail;rw[←hW0.o];refine(oR 0 (some ⟨v.heap.size,0,none⟩) none 2 2 0 0 [ses,nx] [] W0 I0.o K0.o HM.o).mono ?_;rintro e w1 ⟨vb,rfl,O1,D1⟩;have D01:=aa (D0.o.trans (D1.mono D0.o.size));have hsz:=BL.o.size;have hsv:=XM.o.lt;have hW0s:W0.heap.size=v.heap.size+1:=by rw[hW0.o];simp
 have XN1:=aa (XN.o.later D01.o XN.o.lt);have XM1:=aa (XM.o.later D01.o XM.o.lt);have HI1:=aa (HI.o.later D01.o);have HK1:=aa (HK.o.later D01.o);have BL1:=aa (BL.o.trans (D01.o.mono BL.o.size));have O2:=aa O1;clear O1 D1 x0 x1;go_wp2_with fail;refine Met.intro (aL (c:=.seq _ .ret) rfl ?_);try clear hK
 try clear K
 obtain⟨x0,x1⟩:=XN1.o.pair;obtain⟨m0,m1,m2⟩:=XM1.o.three;have xz:=XN1.o.frozen;have mz:=XM1.o.frozen;have h12:¬w.heap.size+1=w.heap.size+1+1:=by omega
 have h21:¬w.heap.size+1+1=w.heap.size+1:=by omega
 have NA:=aa (XN1.o.fD (.int .i64 ses) (.int .i64 nx));have MA:=aa ((XM1.o.other ⟨w.heap.size+1,0,none⟩ (.int .i64 ses) (by simp)).other ⟨w.heap.size+1,1,none⟩ (.int .i64 nx) (by simp));have NB:=aa (NA.o.EM (g:=w.heap.size+1+1) (by omega) (.int .i64 kd) (.slice a1 n1 c1) (.slice a2 nb c2));have MB:=aa (MA.o.aH (.int .i64 kd) (.slice a1 n1 c1) (.slice a2 nb c2));unfold ca at NB;obtain⟨y0,y1⟩:=NA.o.pair;obtain⟨z0,z1,z2⟩:=MA.o.three;obtain⟨p0,p1⟩:=NB.o.pair;obtain⟨q0,q1,q2⟩:=MB.o.three;go_upto_region 11 with fail
 go_region_held3 (fun w'=>w'.cell? ⟨w.heap.size+1,0,none⟩=some (.int .i64 ses)∧w'.cell? ⟨w.heap.size+1,1,none⟩=some (.int .i64 nx)∧w'.cell? ⟨w.heap.size+1+1,0,none⟩=some (.int .i64 kd)∧w'.cell? ⟨w.heap.size+1+1,1,none⟩=some (.slice a1 n1 c1)∧w'.cell? ⟨w.heap.size+1+1,2,none⟩=some (.slice a2 nb c2))
  (first
    | with_reducible exact ⟨x0, x1, m0, m1, m2⟩
    |(simp only[an];with_reducible exact⟨x0,x1,m0,m1,m2⟩)
    |(simp only[an];with_reducible exact⟨y0,y1,z0,z1,z2⟩)
    |(simp only[an];with_reducible exact⟨p0,p1,q0,q1,q2⟩)
    |(with_reducible exact⟨y0,y1,z0,z1,z2⟩)
    |(with_reducible exact⟨p0,p1,q0,q1,q2⟩))
  (fail)
 all_goals go_wp2_with fail
 all_goals
  have GA:=aa (iO (aq w1 (some (w.heap.size+1))) (.int .i64 ses) (.int .i64 nx));have GB:=aa (cy (bp (aq (ew w1 (w.heap.size+1) (.int .i64 ses) (.int .i64 nx)) (some (w.heap.size+1+1))) (.int .i64 kd) (.slice a1 n1 c1) (.slice a2 nb c2)));have IF:=aa ((HI1.o.grownBy GA.o (fun h p hp e=>by have h1:=H1.o h p hp;have h2:w.heap.size+1=p.block:=Gg e;omega)).grownBy GB.o (fun h p hp e=>by have h1:=H1.o h p hp;have h2:w.heap.size+1+1=p.block:=Gg e;omega));have KF:=aa ((HK1.o.grownBy GA.o (fun h p hp e=>by have h1:=H2.o h p hp;have h2:w.heap.size+1=p.block:=Gg e;omega)).grownBy GB.o (fun h p hp e=>by have h1:=H2.o h p hp;have h2:w.heap.size+1+1=p.block:=Gg e;omega));have BF:=aa ((aF (dM BL1.o (g:=w.heap.size+1) (by omega) (.int .i64 ses) (.int .i64 nx)) (g:=w.heap.size+1+1) (by omega) (.int .i64 kd) (.slice a1 n1 c1) (.slice a2 nb c2)).drew);have OF:=aa (World.ownsRow.mono (pW (pW O2.o GA.o (by omega)) GB.o (by omega)) (show w.heap.size≤W0.heap.size+1 by omega));exact bodyPost_ret (v:=.tuple #[.agg #[.int .i64 ses,.int .i64 nx],.agg #[.int .i64 kd,.slice a1 n1 c1,.slice a2 nb c2],.bool fb,vb,.nilIface]) (by simp[results,Tryz.results127,go_sem,p0,p1,q0,q1,q2]) rfl (hP.o _ _ OF.o IF.o KF.o BF.o)
theorem gA (ses want:Int) (a:Option Addr) (len cap:Nat) (l:List Int) (w:World) (hl:Bytes w a len l) (hlen:len≤2000) (hcap:len≤cap) (hs0:0≤ses) (hs1:ses≤2147483647) (hw0:0≤want) (hw1:want≤2147483647) :
 Calls Tryz.prog 127 #[.agg #[.int .i64 ses,.int .i64 want],.slice a len cap] w fun e w'=>FK w w' l ses want e:=by
 have HL:=aa hl;clear hl;obtain⟨W0,hW0⟩:∃ W0:World,Hid (W0=((w.alloc (.cells #[.int .i64 ses,.int .i64 want] 91)).alloc (.cells #[.int .i64 0,.int .i64 0] 91)).alloc (.cells #[.int .i64 0,.slice none 0 0,.slice none 0 0] 173)):=⟨_,rfl⟩
 have X0:=aa (show Bx W0 w.heap.size #[.int .i64 ses,.int .i64 want] 91 by rw[hW0.o];exact((Bx.new w _ _).alloc _).alloc _);have N0:=aa (show Bx W0 (w.heap.size+1) #[.int .i64 0,.int .i64 0] 91 by
  rw[hW0.o];have h:=(Bx.new (w.alloc (.cells #[.int .i64 ses,.int .i64 want] 91)) #[.int .i64 0,.int .i64 0] 91).alloc (.cells #[.int .i64 0,.slice none 0 0,.slice none 0 0] 173);rw[World.size_alloc] at h;exact h)
 have M0:=aa (show Bx W0 (w.heap.size+1+1) #[.int .i64 0,.slice none 0 0,.slice none 0 0] 173 by
  rw[hW0.o];have h:=Bx.new ((w.alloc (.cells #[.int .i64 ses,.int .i64 want] 91)).alloc (.cells #[.int .i64 0,.int .i64 0] 91)) #[.int .i64 0,.slice none 0 0,.slice none 0 0] 173;rw[World.size_alloc,World.size_alloc] at h;exact h)
 have S0:=aa (show W0.heap.size=w.heap.size+3 by rw[hW0.o];simp);have D0:=aa (show Gq w W0 by rw[hW0.o];exact((af _ _).alloc (by simp) _).alloc (by simp;omega) _);obtain⟨W1,hW1⟩:∃ W1:World,Hid (W1=W0.alloc (.cells #[.int .i64 ses,.int .i64 want] 3)):=⟨_,rfl⟩
 have Z1:=bxA hW1;have D1:=beA hW1;have X1:=aa (X0.o.later D1.o X0.o.lt);have N1:=aa (N0.o.later D1.o N0.o.lt);have M1:=aa (M0.o.later D1.o M0.o.lt);have B1:=aa (D0.o.trans (D1.o.mono D0.o.size));have I1:=aa (show ay W1 (some ⟨W0.heap.size,0,none⟩) 2 [ses,want] from⟨rfl,by rw[aC];omega,fun _=>⟨W0.heap.size,0,rfl,Z1.o.lt,fun i hi=>by
  match i,hi with
  | 0, _ => exact Z1.o.cell 0
  | 1, _ => exact Z1.o.cell 1⟩⟩)
 go_enter Tryz.func127,Tryz.ntmps127;change aB Tryz.f127 _ 0 _ w;refine aj rfl ?_;intro K hK;go_wp2_with fail;rw[←hW0.o];refine Met.intro (aj rfl ?_);try clear hK K
 intro K hK;obtain⟨x0,x1⟩:=X0.o.pair;go_wp2_with fail;rw[←hW1.o];refine(iY (some ⟨W0.heap.size,0,none⟩) 2 2 [ses,want] W1 I1.o (by omega)).mono ?_;rintro e wz ⟨rfl,hz⟩;obtain rfl:=hz.symm;clear hz x0 x1;have HB:=aa (show Mx.jN [ses,want]=0 by rw[Mx.mS,if_neg (by unfold Mx.de;omega)]);rw[HB.o,aG];go_wp2_with fail;refine Met.intro (aj rfl ?_);try clear hK K
 intro K hK;obtain⟨x0,x1⟩:=X1.o.pair;go_wp2_with fail;refine(tL ses a len cap l W1 (HL.o.later B1.o) hlen hcap).mono ?_;rintro e w2 ⟨x,v,ok,rfl,hA,hB⟩;have S1:=aa (show W1.heap.size=w.heap.size+4 by rw[hW1.o];simp;exact S0.o);have X2:=aa (X1.o.later hB.o X1.o.lt);have N2:=aa (N1.o.later hB.o N1.o.lt);have M2:=aa (M1.o.later hB.o M1.o.lt);have B2:=aa (B1.o.trans (hB.o.mono B1.o.size));clear x0 x1;rcases hA.o with ⟨rfl,kd,nm,nb,bs,hM,hFR⟩|⟨rfl,rfl,rfl,hno⟩
 ·have HM:=aa hM
  obtain⟨a1,n1,c1,a2,c2,rfl,hI,hK2,hc1,hc2,hp1,hp2⟩:=hFR;obtain⟨W3,hW3⟩:∃ W3:World,Hid (W3=w2.alloc (.cells #[.int .i64 kd,.slice a1 n1 c1,.slice a2 nb c2] 173)):=⟨_,rfl⟩
  have D3:=beA hW3;have F3:=bxA hW3;have X3:=aa (X2.o.later D3.o X2.o.lt);have N3:=aa (N2.o.later D3.o N2.o.lt);have M3:=aa (M2.o.later D3.o M2.o.lt);have B3:=aa (B2.o.trans (D3.o.mono B2.o.size));have I3:=aa (hI.later D3.o);have K3:=aa (hK2.later D3.o);have P1:=aa (show 0<n1→∀ p,a1=some p→w.heap.size+3≤p.block from fun h p hp=>by have h1:=hp1 h p hp;have h2:=S1.o;omega);have P2:=aa (show 0<nb→∀ p,a2=some p→w.heap.size+3≤p.block from fun h p hp=>by have h1:=hp2 h p hp;have h2:=S1.o;omega);have C1:=aa hc1;have C2:=aa hc2;have hs2:w.heap.size+4≤w2.heap.size:=by have h1:=hB.o.size;have h2:=S1.o;omega
  clear hI hK2 hc1 hc2 hp1 hp2 hM hA;go_wp2_with fail;rw[←hW3.o];refine Met.intro (aj rfl ?_);try clear hK K
  intro K hK;go_wp2_with fail;refine Met.intro (aj rfl ?_);try clear hK K
  intro K hK;obtain⟨x0,x1⟩:=X3.o.pair;obtain⟨n0,n1_⟩:=N3.o.pair;have nz:=N3.o.frozen;obtain⟨W4,hW4⟩:∃ W4:World,Hid (W4=ew W3 (w.heap.size+1) (.int .i64 ses) (.int .i64 want)):=⟨_,rfl⟩
  have G4:=aa (show W3.grownBy W4 (some (w.heap.size+1)) by rw[hW4.o];exact iO (aq _ _) _ _);have N4:=aa (show Bx W4 (w.heap.size+1) #[.int .i64 ses,.int .i64 want] 91 by rw[hW4.o];exact N3.o.fD _ _);have X4:=aa (show Bx W4 w.heap.size #[.int .i64 ses,.int .i64 want] 91 from(G4.o.block _ X3.o.lt (by simp)).trans X3.o);have M4:=aa (show Bx W4 (w.heap.size+1+1) #[.int .i64 0,.slice none 0 0,.slice none 0 0] 173 from(G4.o.block _ M3.o.lt (by simp)).trans M3.o);have F4:=aa (show Bx W4 w2.heap.size #[.int .i64 kd,.slice a1 n1 c1,.slice a2 nb c2] 173 from(G4.o.block _ F3.o.lt (by simp;omega)).trans F3.o);have I4:=aa (I3.o.grownBy G4.o (fun h p hp e=>by have h1:=P1.o h p hp;have h2:w.heap.size+1=p.block:=Gg e;omega));have K4:=aa (K3.o.grownBy G4.o (fun h p hp e=>by have h1:=P2.o h p hp;have h2:w.heap.size+1=p.block:=Gg e;omega));have B4:=aa (show Gq w W4 by rw[hW4.o];exact dM B3.o (by omega) _ _);go_wp2_with fail;unfold ew at hW4;rw[←hW4.o];clear x0 x1 n0 n1_ nz;refine Met.intro (aj rfl ?_);try clear hK K
  intro K hK;obtain⟨x0,x1⟩:=X4.o.pair;by_cases hx:x=want
  ·have dx:(x==want)=true:=by simpa using hx
   have HX:=aa hx;clear hx;by_cases hm:want<2147483647
   ·have dm:decide (want<2147483647)=true:=by simpa using hm
    obtain⟨n0,n1_⟩:=N4.o.pair;obtain⟨m0,m1,m2⟩:=M4.o.three;obtain⟨f0,f1,f2⟩:=F4.o.three;have nz:=N4.o.frozen;have mz:=M4.o.frozen;have hwk:IntKind.i64.wrap (want+1)=want+1:=by rw[IntWalk.i64_left,IntWalk.wrap64_in _ (by omega)]
    have hff:¬w.heap.size+1=w2.heap.size:=by omega
    have hfg:¬w.heap.size+1=w.heap.size+1+1:=by omega
    have hfx:¬w.heap.size+1=w.heap.size:=by omega
    have hfy:¬w.heap.size+1+1=w.heap.size:=by omega
    have hfz:¬w.heap.size+1+1=w2.heap.size:=by omega
    go_upto_region 9 with fail
    go_region_held3 (fun w'=>w'.cell? ⟨w.heap.size,1,none⟩=some (.int .i64 want)∧w'.cell? ⟨w2.heap.size,0,none⟩=some (.int .i64 kd)∧w'.cell? ⟨w2.heap.size,1,none⟩=some (.slice a1 n1 c1)∧w'.cell? ⟨w2.heap.size,2,none⟩=some (.slice a2 nb c2))
     (first
       | with_reducible exact ⟨x1, f0, f1, f2⟩
       |(simp only[an];with_reducible exact⟨x1,f0,f1,f2⟩)
       |(simp only[aw hff,aw hfx,aw hfy,aw hfz,an];with_reducible exact⟨x1,f0,f1,f2⟩))
     (fail)
    all_goals go_wp2_with fail
    all_goals
     obtain⟨W5,hW5⟩:∃ W5:World,Hid (W5=W4.setCell ⟨w.heap.size+1,1,none⟩ (.int .i64 (want+1))):=⟨_,rfl⟩
     obtain⟨W6,hW6⟩:∃ W6:World,Hid (W6=(ca W5 (w.heap.size+1+1) (.int .i64 kd) (.slice a1 n1 c1) (.slice a2 nb c2)).drew):=⟨_,rfl⟩
     have G5:=aa (show W4.grownBy W5 (some (w.heap.size+1)) by rw[hW5.o];exact ak (aq _ _) _ _);have G6:=aa (show W5.grownBy W6 (some (w.heap.size+1+1)) by rw[hW6.o];exact cy (bp (aq _ _) _ _ _));have N5:=aa (show Bx W5 (w.heap.size+1) #[.int .i64 ses,.int .i64 (want+1)] 91 by rw[hW5.o];exact N4.o.set 1 _);have N6:=aa (show Bx W6 (w.heap.size+1) #[.int .i64 ses,.int .i64 (want+1)] 91 from(G6.o.block _ N5.o.lt (by simp)).trans N5.o);have M5:=aa (show Bx W5 (w.heap.size+1+1) #[.int .i64 0,.slice none 0 0,.slice none 0 0] 173 from(G5.o.block _ M4.o.lt (by simp)).trans M4.o);have M6:=aa (show Bx W6 (w.heap.size+1+1) #[.int .i64 kd,.slice a1 n1 c1,.slice a2 nb c2] 173 by rw[hW6.o];exact M5.o.aH _ _ _);have I6:=aa ((I4.o.grownBy G5.o (fun h p hp e=>by have h1:=P1.o h p hp;have h2:w.heap.size+1=p.block:=Gg e;omega)).grownBy G6.o (fun h p hp e=>by have h1:=P1.o h p hp;have h2:w.heap.size+1+1=p.block:=Gg e;omega));have K6:=aa ((K4.o.grownBy G5.o (fun h p hp e=>by have h1:=P2.o h p hp;have h2:w.heap.size+1=p.block:=Gg e;omega)).grownBy G6.o (fun h p hp e=>by have h1:=P2.o h p hp;have h2:w.heap.size+1+1=p.block:=Gg e;omega));have B6:=aa (show Gq w W6 by rw[hW6.o,hW5.o];exact(aF (B4.o.setCell (p:=⟨w.heap.size+1,1,none⟩) (by simp) _) (by omega) _ _ _).drew);unfold ca at hW6;rw[←hW5.o,←hW6.o];refine Met.intro (Bf hs0 hs1 (by omega) (by omega) B6 N6 M6 I6 K6 P1 P2 (aa ?_));intro w' vb ho hi hk hb;exact⟨.inl ⟨kd,nm,nb,bs,_,vb,by have h1:=HM.o;rw[HX.o] at h1;exact h1,hm,rfl,⟨a1,n1,c1,a2,c2,rfl,hi,hk,C1.o,C2.o,fun h p hp=>by have h1:=P1.o h p hp;omega,fun h p hp=>by have h1:=P2.o h p hp;omega⟩,ho⟩,hb⟩
   ·have dm:decide (want<2147483647)=false:=by simpa using hm
    go_wp2_with fail;refine Met.intro (Bf hs0 hs1 hw0 hw1 B4 N4 M4 (nm:=[]) (bs:=[]) (aa ⟨rfl,by rw[aC];omega,fun h=>absurd h (by omega)⟩) (aa ⟨rfl,by rw[aC];omega,fun _ h=>(by cases h),fun h=>absurd h (by omega)⟩) (aa (fun h=>absurd h (by omega))) (aa (fun h=>absurd h (by omega))) (aa ?_));intro w' vb ho _ _ hb;exact⟨.inr (.inl ⟨x,kd,nm,nb,bs,vb,HM.o,fun h=>(by have:=h.2;omega),rfl,ho⟩),hb⟩
  ·have dx:(x==want)=false:=by simpa using hx
   have HX:=aa hx;clear hx;go_wp2_with fail;refine Met.intro (Bf hs0 hs1 hw0 hw1 B4 N4 M4 (nm:=[]) (bs:=[]) (aa ⟨rfl,by rw[aC];omega,fun h=>absurd h (by omega)⟩) (aa ⟨rfl,by rw[aC];omega,fun _ h=>(by cases h),fun h=>absurd h (by omega)⟩) (aa (fun h=>absurd h (by omega))) (aa (fun h=>absurd h (by omega))) (aa ?_));intro w' vb ho _ _ hb;exact⟨.inr (.inl ⟨x,kd,nm,nb,bs,vb,HM.o,fun h=>HX.o h.1,rfl,ho⟩),hb⟩
 ·have HNO:=aa hno
  obtain⟨W3,hW3⟩:∃ W3:World,Hid (W3=w2.alloc (.cells #[.int .i64 0,.slice none 0 0,.slice none 0 0] 173)):=⟨_,rfl⟩
  have D3:=beA hW3;have X3:=aa (X2.o.later D3.o X2.o.lt);have N3:=aa (N2.o.later D3.o N2.o.lt);have M3:=aa (M2.o.later D3.o M2.o.lt);have B3:=aa (B2.o.trans (D3.o.mono B2.o.size));clear hA hno;go_wp2_with fail;rw[←hW3.o];refine Met.intro (aj rfl ?_);try clear hK K
  intro K hK;obtain⟨x0,x1⟩:=X3.o.pair;obtain⟨n0,n1⟩:=N3.o.pair;have nz:=N3.o.frozen;obtain⟨m0,m1,m2⟩:=M3.o.three;have mz:=M3.o.frozen;go_wp2_with fail;have NF:=aa ((N3.o.fD (.int .i64 ses) (.int .i64 want)).EM (g:=w.heap.size+1+1) (by omega) (.int .i64 0) (.slice none 0 0) (.slice none 0 0));have MF:=aa (show Bx (ew W3 (w.heap.size+1) (.int .i64 ses) (.int .i64 want)) (w.heap.size+1+1) #[.int .i64 0,.slice none 0 0,.slice none 0 0] 173 from(M3.o.other _ _ (by simp)).other _ _ (by simp));obtain⟨t0,t1⟩:=NF.o.pair;obtain⟨r0,r1,r2⟩:=(MF.o.aH (.int .i64 0) (.slice none 0 0) (.slice none 0 0)).three;unfold ca at t0 t1;unfold ew at r0 r1 r2;exact bodyPost_ret (v:=.tuple #[.agg #[.int .i64 ses,.int .i64 want],.agg #[.int .i64 0,.slice none 0 0,.slice none 0 0],.bool false,.slice none 0 0,.nilIface]) (by simp[results,Tryz.results127,go_sem,t0,t1,r0,r1,r2]) rfl ⟨.inr (.inr ⟨HNO.o,rfl⟩),aF (dM B3.o (by omega) _ _) (by omega) _ _ _⟩
def n5 (w:World) (P:Nat) (v2 v3 v4 v5:Value):World:=(((w.setCell ⟨P,2,none⟩ v2).setCell ⟨P,3,none⟩ v3).setCell ⟨P,4,none⟩ v4).setCell ⟨P,5,none⟩ v5
theorem gV (w:World) (P:Nat) (v2 v3 v4 v5:Value):w.grownBy (n5 w P v2 v3 v4 v5) (some P):=ak (ak (ak (ak (aq w _) _ _) _ _) _ _) _ _
theorem zK (A S:Nat→Prop) (P n:Nat) (ae:List (List B8)) (b:Bu) (p:Pf_) (w:World) (hm:Mut S w) (hp:PrW A S w P n ae b p) (hb:Mx.aK b n=0) (at_:Int) (d:B8) (h0:0≤at_) (h1:at_<(n:Int)) :
 Calls Tryz.prog 25 #[.pointer (some ⟨P,0,none⟩),.int .i64 at_,.agg #[.int .u8 d.z0,.int .u8 d.z1,.int .u8 d.z2,.int .u8 d.z3,.int .u8 d.z4,.int .u8 d.z5,.int .u8 d.z6,.int .u8 d.z7]] w fun e w'=>e=.returned .nilIface∧Hid (PrD A S w w' P n ae (Mx.fF b ⟨at_,d⟩) p):=by
 obtain⟨g,oa,on,oc,sa,sn,sc,m,qa,qn,qc,ha,hn,hc,X⟩:=hp;obtain⟨W0,hW0⟩:∃ W0:World,Hid (W0=w.alloc (.cells #[.int .u8 d.z0,.int .u8 d.z1,.int .u8 d.z2,.int .u8 d.z3,.int .u8 d.z4,.int .u8 d.z5,.int .u8 d.z6,.int .u8 d.z7] 33)):=⟨_,rfl⟩
 have B0:=bxA hW0;have D0:=beA hW0;have hwW:w.heap.size<W0.heap.size:=B0.o.lt;have HX:=aa (X.later D0.o);have HMW:=aa (hm.later D0.o);have NE:=aa X.ne;have HBM:=aa hb;have hPW:P<W0.heap.size:=Bx.lt HX.o.bx;clear X hm hb;go_enter Tryz.func25,Tryz.ntmps25;go_upto_region 1 with fail
 rw[←hW0.o];obtain⟨x0,x1,x2,x3,x4,x5,x6,x7,x8,x9,x10,x11,x12,x13⟩:=HX.o.bx.cells;obtain⟨u0,u1,u2,u3,u4,u5,u6,u7⟩:=Bx.bC B0.o;clear x0 x6 x7 x8 x9 x10 x11 x12 x13;have UB:=aa (show Buo S W0.drew oa on oc sa sn sc b.op b.se from HX.o.r.bu.ext (Ex.below (Below.refl _ _).drew));have UA:=aa (show Buo (fun b=>S b∨b=W0.heap.size) (W0.alloc (.cells #[.int .i64 0,.slice none 0 0,.slice none 0 0,.bool false] 101)).drew oa on oc sa sn sc b.op b.se from(HX.o.r.bu.wd ((Wd.refl S W0).add (Gi _))).ext (Ex.below (af _ _).drew));have hl0:P<W0.heap.size:=(by assumption)
 have hl1:w.heap.size<W0.heap.size:=(by assumption)
 have hf0:¬W0.heap.size=P:=by omega
 have hf1:¬W0.heap.size=w.heap.size:=by omega
 have DA:=aa (show Gq W0 (W0.alloc (.cells #[.int .i64 0,.slice none 0 0,.slice none 0 0,.bool false] 101)).drew from(af _ _).drew);have DB:=aa (show Gq W0 W0.drew from(Below.refl _ _).drew);have XA:=aa (show Bx (W0.alloc (.cells #[.int .i64 0,.slice none 0 0,.slice none 0 0,.bool false] 101)).drew W0.heap.size #[.int .i64 0,.slice none 0 0,.slice none 0 0,.bool false] 101 from Bx.dj W0 _ _);have hSx:¬S W0.heap.size:=fun hs=>by have:=HMW.o.lt _ hs;omega
 have MA:=aa (show Mut (fun b=>S b∨b=W0.heap.size) (W0.alloc (.cells #[.int .i64 0,.slice none 0 0,.slice none 0 0,.bool false] 101)).drew from(HMW.o.later DA.o).add XA.o (dB _ rfl));have MB:=aa (HMW.o.later DB.o);have WA:=aa (show Wd S (fun b=>S b∨b=W0.heap.size) W0 from(Wd.refl S W0).add (Gi _));go_region_held3 (fun w'=>w'.cell? ⟨P,1,none⟩=some (.int .i64 (n:Int))∧w'.cell? ⟨P,2,none⟩=some (.int .i64 b.num)∧w'.cell? ⟨P,3,none⟩=some (.slice oa on oc)∧w'.cell? ⟨P,4,none⟩=some (.slice sa sn sc)∧w'.cell? ⟨P,5,none⟩=some (.bool b.be)∧w'.cell? ⟨w.heap.size,0,none⟩=some (.int .u8 d.z0)∧w'.cell? ⟨w.heap.size,1,none⟩=some (.int .u8 d.z1)∧w'.cell? ⟨w.heap.size,2,none⟩=some (.int .u8 d.z2)∧w'.cell? ⟨w.heap.size,3,none⟩=some (.int .u8 d.z3)∧w'.cell? ⟨w.heap.size,4,none⟩=some (.int .u8 d.z4)∧w'.cell? ⟨w.heap.size,5,none⟩=some (.int .u8 d.z5)∧w'.cell? ⟨w.heap.size,6,none⟩=some (.int .u8 d.z6)∧w'.cell? ⟨w.heap.size,7,none⟩=some (.int .u8 d.z7))
  (first
    | with_reducible exact ⟨x1, x2, x3, x4, x5, u0, u1, u2, u3, u4, u5, u6, u7⟩
    |(simp only[an];with_reducible exact⟨x1,x2,x3,x4,x5,u0,u1,u2,u3,u4,u5,u6,u7⟩)
    | with_reducible exact ⟨yx1, yx2, yx3, yx4, yx5, yu0, yu1, yu2, yu3, yu4, yu5, yu6, yu7⟩
    |(simp only[an,ao hl0,ao hl1];with_reducible exact⟨x1,x2,x3,x4,x5,u0,u1,u2,u3,u4,u5,u6,u7⟩)
    |(simp only[ao hy0,ao hy1];with_reducible exact⟨yx1,yx2,yx3,yx4,yx5,yu0,yu1,yu2,yu3,yu4,yu5,yu6,yu7⟩)
    |(simp only[aw hf0,aw hf1];with_reducible exact⟨yx1,yx2,yx3,yx4,yx5,yu0,yu1,yu2,yu3,yu4,yu5,yu6,yu7⟩))
  (first
    |(go_at_call 41;(with_reducible refine(uv S b oa on oc sa sn sc n ⟨at_,d⟩ W0.drew MB.o UB.o HBM.o h0 h1).mono ?_);rintro e w2 ⟨ka,kn,kc,la,ln,lc,rfl,U2,E2⟩;have D2:=aa (show Gq W0 w2 from DB.o.trans (E2.o.mono DB.o.size));have yx1:=(D2.o.cell (p:=⟨P,1,none⟩) hl0).trans x1;have yx2:=(D2.o.cell (p:=⟨P,2,none⟩) hl0).trans x2;have yx3:=(D2.o.cell (p:=⟨P,3,none⟩) hl0).trans x3;have yx4:=(D2.o.cell (p:=⟨P,4,none⟩) hl0).trans x4;have yx5:=(D2.o.cell (p:=⟨P,5,none⟩) hl0).trans x5;have yu0:=(D2.o.cell (p:=⟨w.heap.size,0,none⟩) hl1).trans u0;have yu1:=(D2.o.cell (p:=⟨w.heap.size,1,none⟩) hl1).trans u1;have yu2:=(D2.o.cell (p:=⟨w.heap.size,2,none⟩) hl1).trans u2;have yu3:=(D2.o.cell (p:=⟨w.heap.size,3,none⟩) hl1).trans u3;have yu4:=(D2.o.cell (p:=⟨w.heap.size,4,none⟩) hl1).trans u4;have yu5:=(D2.o.cell (p:=⟨w.heap.size,5,none⟩) hl1).trans u5;have yu6:=(D2.o.cell (p:=⟨w.heap.size,6,none⟩) hl1).trans u6;have yu7:=(D2.o.cell (p:=⟨w.heap.size,7,none⟩) hl1).trans u7;have hy0:P<w2.heap.size:=Gf hl0 D2.o.size;have hy1:w.heap.size<w2.heap.size:=Gf hl1 D2.o.size)
    |(go_at_call 41;(with_reducible refine(uv (fun b=>S b∨b=W0.heap.size) b oa on oc sa sn sc n ⟨at_,d⟩ (W0.alloc (.cells #[.int .i64 0,.slice none 0 0,.slice none 0 0,.bool false] 101)).drew MA.o UA.o HBM.o h0 h1).mono ?_);rintro e w2 ⟨ka,kn,kc,la,ln,lc,rfl,U2,E2⟩;have D2:=aa (show Gq W0 w2 from DA.o.trans (E2.o.mono DA.o.size));have yx1:=(D2.o.cell (p:=⟨P,1,none⟩) hl0).trans x1;have yx2:=(D2.o.cell (p:=⟨P,2,none⟩) hl0).trans x2;have yx3:=(D2.o.cell (p:=⟨P,3,none⟩) hl0).trans x3;have yx4:=(D2.o.cell (p:=⟨P,4,none⟩) hl0).trans x4;have yx5:=(D2.o.cell (p:=⟨P,5,none⟩) hl0).trans x5;have yu0:=(D2.o.cell (p:=⟨w.heap.size,0,none⟩) hl1).trans u0;have yu1:=(D2.o.cell (p:=⟨w.heap.size,1,none⟩) hl1).trans u1;have yu2:=(D2.o.cell (p:=⟨w.heap.size,2,none⟩) hl1).trans u2;have yu3:=(D2.o.cell (p:=⟨w.heap.size,3,none⟩) hl1).trans u3;have yu4:=(D2.o.cell (p:=⟨w.heap.size,4,none⟩) hl1).trans u4;have yu5:=(D2.o.cell (p:=⟨w.heap.size,5,none⟩) hl1).trans u5;have yu6:=(D2.o.cell (p:=⟨w.heap.size,6,none⟩) hl1).trans u6;have yu7:=(D2.o.cell (p:=⟨w.heap.size,7,none⟩) hl1).trans u7;have hy0:P<w2.heap.size:=Gf hl0 D2.o.size;have hy1:w.heap.size<w2.heap.size:=Gf hl1 D2.o.size;have X2:=aa (XA.o.later E2.o XA.o.lt);have zc0:w2.cell? ⟨W0.heap.size,0,none⟩=some (.int .i64 0):=X2.o.cell 0;have zc1:w2.cell? ⟨W0.heap.size,1,none⟩=some (.slice none 0 0):=X2.o.cell 1;have zc2:w2.cell? ⟨W0.heap.size,2,none⟩=some (.slice none 0 0):=X2.o.cell 2;have zc3:w2.cell? ⟨W0.heap.size,3,none⟩=some (.bool false):=X2.o.cell 3;have zz:=X2.o.frozen))
 all_goals
  first
   |(obtain⟨W3,hW3⟩:∃ W3:World,Hid (W3=w2.alloc (.cells #[.int .i64 b.num,.slice ka kn kc,.slice la ln lc,.bool b.be] 101)):=⟨_,rfl⟩
     obtain⟨gx,hgx⟩:∃ gx:Nat,Hid (gx=w2.heap.size):=⟨_,rfl⟩
     have X3:=aa (show Bx W3 gx #[.int .i64 b.num,.slice ka kn kc,.slice la ln lc,.bool b.be] 101 by rw[hW3.o,hgx.o];exact Bx.new w2 _ _);have F3:=beA hW3;have D3:=aa (show Gq W0 W3 from D2.o.trans (F3.o.mono D2.o.size));have U3:=aa (show Buo S W3 ka kn kc la ln lc (Mx.fF b ⟨at_,d⟩).op (Mx.fF b ⟨at_,d⟩).se from U2.o.ext (Ex.below F3.o));have hgw:W0.heap.size≤gx:=by rw[hgx.o];exact D2.o.size
     rw[←hW3.o,←hgx.o])
   |(obtain⟨W3,hW3⟩:∃ W3:World,Hid (W3=((((w2.setCell ⟨W0.heap.size,0,none⟩ (.int .i64 b.num)).setCell ⟨W0.heap.size,1,none⟩ (.slice ka kn kc)).setCell ⟨W0.heap.size,2,none⟩ (.slice la ln lc)).setCell ⟨W0.heap.size,3,none⟩ (.bool b.be))):=⟨_,rfl⟩
     obtain⟨gx,hgx⟩:∃ gx:Nat,Hid (gx=W0.heap.size):=⟨_,rfl⟩
     have U3:=aa (show w2.grownBy W3 (some W0.heap.size) by rw[hW3.o];exact ak (ak (ak (ak (aq _ _) _ _) _ _) _ _) _ _);have X3:=aa (show Bx W3 gx #[.int .i64 b.num,.slice ka kn kc,.slice la ln lc,.bool b.be] 101 by rw[hW3.o,hgx.o];exact(((X2.o.set 0 _).set 1 _).set 2 _).set 3 _);have D3:=aa (show Gq W0 W3 from aM D2.o U3.o (Gi _));have Z3:=aa (show Ex (fun b=>b=W0.heap.size) w2 W3 from Ex.one U3.o);have U3:=aa (show Buo S W3 ka kn kc la ln lc (Mx.fF b ⟨at_,d⟩).op (Mx.fF b ⟨at_,d⟩).se from(U2.o.ext (Z3.o.mono (fun b _ hb=>.inr hb))).wd (fun b _ hs=>.inl hs));have hgw:W0.heap.size≤gx:=by rw[hgx.o];exact Gi _
     rw[←hW3.o,←hgx.o])
  clear x1 x2 x3 x4 x5 u0 u1 u2 u3 u4 u5 u6 u7 yx1 yx2 yx3 yx4 yx5 yu0 yu1 yu2 yu3 yu4 yu5 yu6 yu7;try clear zc0 zc1 zc2 zc3 zz
  have X4:=aa (HX.o.later D3.o);obtain⟨t0,t1,t2,t3⟩:=Bx.four X3.o;have xz:=Bx.frozen X4.o.bx;obtain⟨x0,x1,x2,x3,x4,x5,x6,x7,x8,x9,x10,x11,x12,x13⟩:=X4.o.bx.cells;have hne:¬P=gx:=by omega
  have hne2:¬gx=P:=by omega
  go_wp2_with fail;have XF:=aa (show PrX A S (n5 W3 P (.int .i64 b.num) (.slice ka kn kc) (.slice la ln lc) (.bool b.be)) P n ae (Mx.fF b ⟨at_,d⟩) p g ka kn kc la ln lc m qa qn qc ha hn hc from by
   have hr:PrR S W3 n ae (Mx.fF b ⟨at_,d⟩) p g ka kn kc la ln lc m qa qn qc ha hn hc:={X4.o.r with bu:=U3.o,mp:=X4.o.r.mp,num:=X4.o.r.num}
   exact⟨(((Bx.set X4.o.bx 2 _).set 3 _).set 4 _).set 5 _,hr.ext (Ex.one (gV W3 P _ _ _ _)) (fun b hb=>by rw[hb];exact X4.o.sub _ X4.o.aP) (fun e=>NE.o.1 e.symm) (fun e=>NE.o.2.1 e.symm),X4.o.aP,X4.o.ag,X4.o.am,X4.o.sub⟩)
  have EF:=aa (show Ex A w (n5 W3 P (.int .i64 b.num) (.slice ka kn kc) (.slice la ln lc) (.bool b.be)) from(Ex.below (D0.o.trans (D3.o.mono D0.o.size))).trans ((Ex.one (gV W3 P _ _ _ _)).mono (fun b _ hb=>by rw[hb];exact X4.o.aP)));have MF:=aa ((HMW.o.later D3.o).dZ (Ex.one (gV W3 P (.int .i64 b.num) (.slice ka kn kc) (.slice la ln lc) (.bool b.be))) XF.o.bx fm);exact bodyPost_ret (v:=.nilIface) (by simp[results,Tryz.results25,go_sem]) rfl ⟨rfl,aa ⟨MF.o,⟨g,ka,kn,kc,la,ln,lc,m,_,_,_,_,_,_,XF.o⟩,EF.o⟩⟩
theorem xh (A S:Nat→Prop) (P n:Nat) (ae:List (List B8)) (b:Bu) (p:Pf_) (w:World) (hm:Mut S w) (hp:PrW A S w P n ae b p) (hb:Mx.aK b n=0) (at_:Int) (d:B8) (h0:Hid (at_<0∨(n:Int)≤at_)) :
 Calls Tryz.prog 25 #[.pointer (some ⟨P,0,none⟩),.int .i64 at_,.agg #[.int .u8 d.z0,.int .u8 d.z1,.int .u8 d.z2,.int .u8 d.z3,.int .u8 d.z4,.int .u8 d.z5,.int .u8 d.z6,.int .u8 d.z7]] w fun e w'=>e=.returned (.iface 28 (.int .i64 1))∧Hid (Gq w w'):=by
 obtain⟨g,oa,on,oc,sa,sn,sc,m,qa,qn,qc,ha,hn,hc,X⟩:=hp;obtain⟨W0,hW0⟩:∃ W0:World,Hid (W0=w.alloc (.cells #[.int .u8 d.z0,.int .u8 d.z1,.int .u8 d.z2,.int .u8 d.z3,.int .u8 d.z4,.int .u8 d.z5,.int .u8 d.z6,.int .u8 d.z7] 33)):=⟨_,rfl⟩
 have B0:=bxA hW0;have D0:=beA hW0;have hwW:w.heap.size<W0.heap.size:=B0.o.lt;have HX:=aa (X.later D0.o);have HMW:=aa (hm.later D0.o);have NE:=aa X.ne;have HBM:=aa hb;have hPW:P<W0.heap.size:=Bx.lt HX.o.bx;clear X hm hb;go_enter Tryz.func25,Tryz.ntmps25;go_upto_region 1 with fail
 rw[←hW0.o];obtain⟨x0,x1,x2,x3,x4,x5,x6,x7,x8,x9,x10,x11,x12,x13⟩:=HX.o.bx.cells;obtain⟨u0,u1,u2,u3,u4,u5,u6,u7⟩:=Bx.bC B0.o;clear x0 x6 x7 x8 x9 x10 x11 x12 x13;have UB:=aa (show Buo S W0.drew oa on oc sa sn sc b.op b.se from HX.o.r.bu.ext (Ex.below (Below.refl _ _).drew));have UA:=aa (show Buo (fun b=>S b∨b=W0.heap.size) (W0.alloc (.cells #[.int .i64 0,.slice none 0 0,.slice none 0 0,.bool false] 101)).drew oa on oc sa sn sc b.op b.se from(HX.o.r.bu.wd ((Wd.refl S W0).add (Gi _))).ext (Ex.below (af _ _).drew));have hl0:P<W0.heap.size:=(by assumption)
 have hl1:w.heap.size<W0.heap.size:=(by assumption)
 have hf0:¬W0.heap.size=P:=by omega
 have hf1:¬W0.heap.size=w.heap.size:=by omega
 have DA:=aa (show Gq W0 (W0.alloc (.cells #[.int .i64 0,.slice none 0 0,.slice none 0 0,.bool false] 101)).drew from(af _ _).drew);have DB:=aa (show Gq W0 W0.drew from(Below.refl _ _).drew);have XA:=aa (show Bx (W0.alloc (.cells #[.int .i64 0,.slice none 0 0,.slice none 0 0,.bool false] 101)).drew W0.heap.size #[.int .i64 0,.slice none 0 0,.slice none 0 0,.bool false] 101 from Bx.dj W0 _ _);have hSx:¬S W0.heap.size:=fun hs=>by have:=HMW.o.lt _ hs;omega
 have MA:=aa (show Mut (fun b=>S b∨b=W0.heap.size) (W0.alloc (.cells #[.int .i64 0,.slice none 0 0,.slice none 0 0,.bool false] 101)).drew from(HMW.o.later DA.o).add XA.o (dB _ rfl));have MB:=aa (HMW.o.later DB.o);have WA:=aa (show Wd S (fun b=>S b∨b=W0.heap.size) W0 from(Wd.refl S W0).add (Gi _));go_region_held3 (fun w'=>w'.cell? ⟨P,1,none⟩=some (.int .i64 (n:Int))∧w'.cell? ⟨P,2,none⟩=some (.int .i64 b.num)∧w'.cell? ⟨P,3,none⟩=some (.slice oa on oc)∧w'.cell? ⟨P,4,none⟩=some (.slice sa sn sc)∧w'.cell? ⟨P,5,none⟩=some (.bool b.be)∧w'.cell? ⟨w.heap.size,0,none⟩=some (.int .u8 d.z0)∧w'.cell? ⟨w.heap.size,1,none⟩=some (.int .u8 d.z1)∧w'.cell? ⟨w.heap.size,2,none⟩=some (.int .u8 d.z2)∧w'.cell? ⟨w.heap.size,3,none⟩=some (.int .u8 d.z3)∧w'.cell? ⟨w.heap.size,4,none⟩=some (.int .u8 d.z4)∧w'.cell? ⟨w.heap.size,5,none⟩=some (.int .u8 d.z5)∧w'.cell? ⟨w.heap.size,6,none⟩=some (.int .u8 d.z6)∧w'.cell? ⟨w.heap.size,7,none⟩=some (.int .u8 d.z7))
  (first
    | with_reducible exact ⟨x1, x2, x3, x4, x5, u0, u1, u2, u3, u4, u5, u6, u7⟩
    |(simp only[an];with_reducible exact⟨x1,x2,x3,x4,x5,u0,u1,u2,u3,u4,u5,u6,u7⟩)
    | with_reducible exact ⟨yx1, yx2, yx3, yx4, yx5, yu0, yu1, yu2, yu3, yu4, yu5, yu6, yu7⟩
    |(simp only[an,ao hl0,ao hl1];with_reducible exact⟨x1,x2,x3,x4,x5,u0,u1,u2,u3,u4,u5,u6,u7⟩)
    |(simp only[ao hy0,ao hy1];with_reducible exact⟨yx1,yx2,yx3,yx4,yx5,yu0,yu1,yu2,yu3,yu4,yu5,yu6,yu7⟩)
    |(simp only[aw hf0,aw hf1];with_reducible exact⟨yx1,yx2,yx3,yx4,yx5,yu0,yu1,yu2,yu3,yu4,yu5,yu6,yu7⟩))
  (first
    |(go_at_call 41;(with_reducible refine(rB S b oa on oc sa sn sc n ⟨at_,d⟩ W0.drew MB.o UB.o HBM.o h0.o).mono ?_);rintro e w2 ⟨ka,kn,kc,la,ln,lc,rfl,E2⟩;have D2:=aa (show Gq W0 w2 from DB.o.trans (E2.o.mono DB.o.size));have yx1:=(D2.o.cell (p:=⟨P,1,none⟩) hl0).trans x1;have yx2:=(D2.o.cell (p:=⟨P,2,none⟩) hl0).trans x2;have yx3:=(D2.o.cell (p:=⟨P,3,none⟩) hl0).trans x3;have yx4:=(D2.o.cell (p:=⟨P,4,none⟩) hl0).trans x4;have yx5:=(D2.o.cell (p:=⟨P,5,none⟩) hl0).trans x5;have yu0:=(D2.o.cell (p:=⟨w.heap.size,0,none⟩) hl1).trans u0;have yu1:=(D2.o.cell (p:=⟨w.heap.size,1,none⟩) hl1).trans u1;have yu2:=(D2.o.cell (p:=⟨w.heap.size,2,none⟩) hl1).trans u2;have yu3:=(D2.o.cell (p:=⟨w.heap.size,3,none⟩) hl1).trans u3;have yu4:=(D2.o.cell (p:=⟨w.heap.size,4,none⟩) hl1).trans u4;have yu5:=(D2.o.cell (p:=⟨w.heap.size,5,none⟩) hl1).trans u5;have yu6:=(D2.o.cell (p:=⟨w.heap.size,6,none⟩) hl1).trans u6;have yu7:=(D2.o.cell (p:=⟨w.heap.size,7,none⟩) hl1).trans u7;have hy0:P<w2.heap.size:=Gf hl0 D2.o.size;have hy1:w.heap.size<w2.heap.size:=Gf hl1 D2.o.size)
    |(go_at_call 41;(with_reducible refine(rB (fun b=>S b∨b=W0.heap.size) b oa on oc sa sn sc n ⟨at_,d⟩ (W0.alloc (.cells #[.int .i64 0,.slice none 0 0,.slice none 0 0,.bool false] 101)).drew MA.o UA.o HBM.o h0.o).mono ?_);rintro e w2 ⟨ka,kn,kc,la,ln,lc,rfl,E2⟩;have D2:=aa (show Gq W0 w2 from DA.o.trans (E2.o.mono DA.o.size));have yx1:=(D2.o.cell (p:=⟨P,1,none⟩) hl0).trans x1;have yx2:=(D2.o.cell (p:=⟨P,2,none⟩) hl0).trans x2;have yx3:=(D2.o.cell (p:=⟨P,3,none⟩) hl0).trans x3;have yx4:=(D2.o.cell (p:=⟨P,4,none⟩) hl0).trans x4;have yx5:=(D2.o.cell (p:=⟨P,5,none⟩) hl0).trans x5;have yu0:=(D2.o.cell (p:=⟨w.heap.size,0,none⟩) hl1).trans u0;have yu1:=(D2.o.cell (p:=⟨w.heap.size,1,none⟩) hl1).trans u1;have yu2:=(D2.o.cell (p:=⟨w.heap.size,2,none⟩) hl1).trans u2;have yu3:=(D2.o.cell (p:=⟨w.heap.size,3,none⟩) hl1).trans u3;have yu4:=(D2.o.cell (p:=⟨w.heap.size,4,none⟩) hl1).trans u4;have yu5:=(D2.o.cell (p:=⟨w.heap.size,5,none⟩) hl1).trans u5;have yu6:=(D2.o.cell (p:=⟨w.heap.size,6,none⟩) hl1).trans u6;have yu7:=(D2.o.cell (p:=⟨w.heap.size,7,none⟩) hl1).trans u7;have hy0:P<w2.heap.size:=Gf hl0 D2.o.size;have hy1:w.heap.size<w2.heap.size:=Gf hl1 D2.o.size;have X2:=aa (XA.o.later E2.o XA.o.lt);have zc0:w2.cell? ⟨W0.heap.size,0,none⟩=some (.int .i64 0):=X2.o.cell 0;have zc1:w2.cell? ⟨W0.heap.size,1,none⟩=some (.slice none 0 0):=X2.o.cell 1;have zc2:w2.cell? ⟨W0.heap.size,2,none⟩=some (.slice none 0 0):=X2.o.cell 2;have zc3:w2.cell? ⟨W0.heap.size,3,none⟩=some (.bool false):=X2.o.cell 3;have zz:=X2.o.frozen))
 all_goals
  first
   |(obtain⟨W3,hW3⟩:∃ W3:World,Hid (W3=w2.alloc (.cells #[.int .i64 0,.slice ka kn kc,.slice la ln lc,.bool false] 101)):=⟨_,rfl⟩
     obtain⟨gx,hgx⟩:∃ gx:Nat,Hid (gx=w2.heap.size):=⟨_,rfl⟩
     have X3:=aa (show Bx W3 gx #[.int .i64 0,.slice ka kn kc,.slice la ln lc,.bool false] 101 by rw[hW3.o,hgx.o];exact Bx.new w2 _ _);have F3:=beA hW3;have D3:=aa (show Gq W0 W3 from D2.o.trans (F3.o.mono D2.o.size));have hgw:W0.heap.size≤gx:=by rw[hgx.o];exact D2.o.size
     rw[←hW3.o,←hgx.o])
   |(obtain⟨W3,hW3⟩:∃ W3:World,Hid (W3=((((w2.setCell ⟨W0.heap.size,0,none⟩ (.int .i64 0)).setCell ⟨W0.heap.size,1,none⟩ (.slice ka kn kc)).setCell ⟨W0.heap.size,2,none⟩ (.slice la ln lc)).setCell ⟨W0.heap.size,3,none⟩ (.bool false))):=⟨_,rfl⟩
     obtain⟨gx,hgx⟩:∃ gx:Nat,Hid (gx=W0.heap.size):=⟨_,rfl⟩
     have U3:=aa (show w2.grownBy W3 (some W0.heap.size) by rw[hW3.o];exact ak (ak (ak (ak (aq _ _) _ _) _ _) _ _) _ _);have X3:=aa (show Bx W3 gx #[.int .i64 0,.slice ka kn kc,.slice la ln lc,.bool false] 101 by rw[hW3.o,hgx.o];exact(((X2.o.set 0 _).set 1 _).set 2 _).set 3 _);have D3:=aa (show Gq W0 W3 from aM D2.o U3.o (Gi _));have Z3:=aa (show Ex (fun b=>b=W0.heap.size) w2 W3 from Ex.one U3.o);have hgw:W0.heap.size≤gx:=by rw[hgx.o];exact Gi _
     rw[←hW3.o,←hgx.o])
  clear x1 x2 x3 x4 x5 u0 u1 u2 u3 u4 u5 u6 u7 yx1 yx2 yx3 yx4 yx5 yu0 yu1 yu2 yu3 yu4 yu5 yu6 yu7;try clear zc0 zc1 zc2 zc3 zz
  obtain⟨t0,t1,t2,t3⟩:=Bx.four X3.o;go_wp2_with fail;exact bodyPost_ret (v:=.iface 28 (.int .i64 1)) (by simp[results,Tryz.results25,go_sem]) rfl ⟨rfl,aa (D0.o.trans (D3.o.mono D0.o.size))⟩
namespace Mx
theorem mO {i:Nat}:∀ {ps:List Pt} {l:List B8},(∀ p∈ps,0≤p.at_)→(∀ p∈ps,p.at_≠(i:Int))→(lay l ps)[i]?=l[i]?
 | [], _, _, _ => rfl
 | q :: ps, l, h0, h => by
  show(lay (dI l q) ps)[i]?=_
  rw[mO (fun p hp=>h0 p (List.mem_cons_of_mem _ hp)) (fun p hp=>h p (List.mem_cons_of_mem _ hp))];unfold dI;have h1:=h q (List.mem_cons_self ..);have h2:=h0 q (List.mem_cons_self ..);rw[List.getElem?_set_ne (by omega)]
theorem uJ {n:Int}:∀ {ps:List Pt} {s:Int} {l:List B8},dq n s ps→0≤s→n=(l.length:Int)→∀ p∈ps,(lay l ps)[p.at_.toNat]?=some p.d
 | [], _, _, _, _, _, p, hp => by simp at hp
 | q :: ps, s, l, h, hs, hl, p, hp => by
  have h1:=h.1;have h2:=h.2.1;show(lay (dI l q) ps)[p.at_.toNat]?=_
  rcases List.mem_cons.1 hp with rfl|hp
  ·rw[mO (fun r hr=>by have:=dr h.2.2 r hr;omega) (fun r hr=>by have:=dr h.2.2 r hr;omega)]
   unfold dI;rw[List.getElem?_set_self (by omega)]
  ·exact uJ h.2.2 (by omega) (by unfold dI;rw[List.length_set];exact hl) p hp
end Mx
theorem zC (A S:Nat→Prop) (P n:Nat) (ae:List (List B8)) (b:Bu) (p:Pf_) (w:World) (hp:PrW A S w P n ae b p) (bl:List B8) (hbl:ae[p.ar]?=some bl) (hln:bl.length=n) (hb:Mx.aK b n=0) (at_:Int) (x:B8) (hx:(0≤at_∧at_<(n:Int)∧(Mx.lay bl b.op)[at_.toNat]?=some x)∨(¬(0≤at_∧at_<(n:Int))∧x=zB)) (E:Value) (hE:E=if 0≤at_∧at_<(n:Int) then .nilIface else .iface 28 (.int .i64 1)) :
 Calls Tryz.prog 26 #[.pointer (some ⟨P,0,none⟩),.int .i64 at_] w fun e w'=>e=.returned (.tuple #[.agg #[.int .u8 x.z0,.int .u8 x.z1,.int .u8 x.z2,.int .u8 x.z3,.int .u8 x.z4,.int .u8 x.z5,.int .u8 x.z6,.int .u8 x.z7],E])∧Hid (Gq w w'):=by
 obtain⟨g,oa,on,oc,sa,sn,sc,m,qa,qn,qc,ha,hn,hc,X⟩:=hp;obtain⟨W0,hW0⟩:∃ W0:World,Hid (W0=w.alloc (.cells #[.int .u8 0,.int .u8 0,.int .u8 0,.int .u8 0,.int .u8 0,.int .u8 0,.int .u8 0,.int .u8 0] 33)):=⟨_,rfl⟩
 have B0:=bxA hW0;have D0:=beA hW0;have HX:=aa (X.later D0.o);have HR:=aa (show Mx.bB n b.op=true from by
  have:=(Mx.bW (Mx.bM hb).2.2).2.1;exact this)
 have hon:b.op.length=on:=X.r.bu.op.1.1;have hon3:on≤1000:=by have:=(Mx.qw hb).1;omega
 have HON:=aa hon;have HBL:=aa hbl;have HLN:=aa hln;have HXX:=aa hx;have HEE:=aa hE;clear X hb hon hbl hln hx hE;obtain⟨x0,x1,x2,x3,x4,x5,x6,x7,x8,x9,x10,x11,x12,x13⟩:=HX.o.bx.cells;clear x1 x2 x4 x5 x6 x7 x8 x9 x10 x11 x12 x13;go_enter Tryz.func26,Tryz.ntmps26;go_upto_region 1 with fail
 rw[←hW0.o];go_wp2_with fail;clear x0 x3;go_loopw [14] (fun t wr=>∃ k:Nat,t=.int .i64 (k:Int)∧k≤on∧Hid (Gq W0 wr)∧Hid (∀ j q,j<k→b.op[j]?=some q→q.at_≠at_)) (fun t _=>on-(intOf t).toNat)
 case atStart=>exact⟨0,rfl,Nat.zero_le _,Below.refl _ _,fun j q hj=>absurd hj (by omega)⟩
 case round =>
  obtain⟨k,rfl,hk,hB,hN⟩:=hrel;by_cases hlt:k<on
  ·have hlti:(k:Int)<on:=by omega
   obtain⟨bb,off,pt,hba,hbw,hpt,c0,c1,c2,c3,c4,c5,c6,c7,c8⟩:=(HX.o.r.bu.op.1.later hB.o).at_ k hlt;have HOA:=aa hba;subst hba;have HP:=aa hpt;clear hpt;obtain⟨W1,hW1⟩:∃ W1:World,Hid (W1=wr.alloc (.cells #[.int .i64 pt.at_,.int .u8 pt.d.z0,.int .u8 pt.d.z1,.int .u8 pt.d.z2,.int .u8 pt.d.z3,.int .u8 pt.d.z4,.int .u8 pt.d.z5,.int .u8 pt.d.z6,.int .u8 pt.d.z7] 114)):=⟨_,rfl⟩
   have X1:=bxA hW1;have B1:=aa (show Gq W0 W1 by rw[hW1.o];exact hB.o.alloc hB.o.size _);go_upto_region 4 with fail
   rw[←hW1.o];clear c0 c1 c2 c3 c4 c5 c6 c7 c8;have y0:W1.cell? ⟨wr.heap.size,0,none⟩=some (.int .i64 pt.at_):=X1.o.cell 0;have y1:W1.cell? ⟨wr.heap.size,1,none⟩=some (.int .u8 pt.d.z0):=X1.o.cell 1;have y2:W1.cell? ⟨wr.heap.size,2,none⟩=some (.int .u8 pt.d.z1):=X1.o.cell 2;have y3:W1.cell? ⟨wr.heap.size,3,none⟩=some (.int .u8 pt.d.z2):=X1.o.cell 3;have y4:W1.cell? ⟨wr.heap.size,4,none⟩=some (.int .u8 pt.d.z3):=X1.o.cell 4;have y5:W1.cell? ⟨wr.heap.size,5,none⟩=some (.int .u8 pt.d.z4):=X1.o.cell 5;have y6:W1.cell? ⟨wr.heap.size,6,none⟩=some (.int .u8 pt.d.z5):=X1.o.cell 6;have y7:W1.cell? ⟨wr.heap.size,7,none⟩=some (.int .u8 pt.d.z6):=X1.o.cell 7;have y8:W1.cell? ⟨wr.heap.size,8,none⟩=some (.int .u8 pt.d.z7):=X1.o.cell 8;by_cases he:pt.at_=at_
   ·have hd:(pt.at_==at_)=true:=by simpa using he
    have R1:=aa (B0.o.later B1.o B0.o.lt);obtain⟨r0,r1,r2,r3,r4,r5,r6,r7⟩:=Bx.bC R1.o;have rz:=R1.o.frozen;have hne:¬wr.heap.size=w.heap.size:=by have h1:=hB.o.size;have h2:=B0.o.lt;omega
    have hne2:¬w.heap.size=wr.heap.size:=by omega
    have HE2:=aa he;clear he;obtain⟨W6,hW6⟩:∃ W6:World,Hid (W6=aR W1 w.heap.size 0 pt.d):=⟨_,rfl⟩
    have XF:=aa (show Gs W6 w.heap.size pt.d by rw[hW6.o];exact eg R1.o pt.d);have BF:=aa (show Gq w W6 by rw[hW6.o];exact bP (D0.o.trans (B1.o.mono D0.o.size)) (Gi _) _ _);unfold aR at hW6;simp only[Nat.zero_add] at hW6;go_wp2_with fail;rw[←hW6.o];obtain⟨t0,t1,t2,t3,t4,t5,t6,t7⟩:=Bx.bC XF.o;have hin:=Mx.dr (Mx.dO HR.o) pt (Gp HP.o);have hx2:=Mx.uJ (l:=bl) (Mx.dO HR.o) (Int.le_refl 0) (by rw[HLN.o]) pt (Gp HP.o);have hEv:E=.nilIface:=by rw[HEE.o,if_pos (by rw[←HE2.o];exact hin)]
    have hxd:x=pt.d:=by
     rcases HXX.o with ⟨h1,h2,h3⟩|⟨h1,_⟩
     ·rw[←HE2.o,hx2] at h3
      exact(Gg h3).symm
     ·exact absurd (by rw[←HE2.o];exact hin) h1
    exact bodyPost_ret (v:=.tuple #[.agg #[.int .u8 pt.d.z0,.int .u8 pt.d.z1,.int .u8 pt.d.z2,.int .u8 pt.d.z3,.int .u8 pt.d.z4,.int .u8 pt.d.z5,.int .u8 pt.d.z6,.int .u8 pt.d.z7],.nilIface]) (by simp[results,Tryz.results26,go_sem,t0,t1,t2,t3,t4,t5,t6,t7]) rfl ⟨by rw[hEv,hxd],BF⟩
   ·have hd:(pt.at_==at_)=false:=by simpa using he
    have HE2:=aa he;clear he;go_wp2_with fail;go_roundw
    case rel=>exact⟨k+1,by go_num,by omega,B1,fun j q hj hq=>by
     by_cases hjk:j=k
     ·subst hjk
      rw[HP.o] at hq;cases hq
      exact HE2.o
     ·exact hN.o j q (by omega) hq⟩
    case measure=>simp[intOf];omega
  ·obtain rfl:k=on:=by omega
   have XR:=aa (HX.o.later hB.o);obtain⟨x0,x1,x2,x3,x4,x5,x6,x7,x8,x9,x10,x11,x12,x13⟩:=XR.o.bx.cells;clear x1 x2 x3 x4 x5 x6 x7 x8 x9 x10 x11 x12 x13;obtain⟨bl',hbl',ND⟩:=XR.o.r.nd;have HD:=aa ND;have hbe:bl'=bl:=by rw[HBL.o] at hbl';exact(Gg hbl').symm
   subst hbe;have HNo:=aa (show ∀ q∈b.op,q.at_≠at_ from fun q hq=>by
    obtain⟨j,hj⟩:=List.getElem?_of_mem hq;exact hN.o j q (by rw[←HON.o];exact(Gh.1 hj).1) hj)
   have R1:=aa (B0.o.later hB.o B0.o.lt);clear ND hbl' hN;go_wp2_with fail;clear x0;by_cases hin:0≤at_∧at_<(n:Int)
   ·obtain⟨i,hi⟩:∃ i:Nat,at_=(i:Int):=⟨at_.toNat,by omega⟩
    subst hi;have hxb:bl'[i]?=some x:=by
     rcases HXX.o with ⟨h1,h2,h3⟩|⟨h1,_⟩
     ·rw[Int.toNat_natCast,Mx.mO (fun q hq=>(Mx.dr (Mx.dO HR.o) q hq).1) HNo.o] at h3
      exact h3
     ·exact absurd hin h1
    have hEv:E=.nilIface:=by rw[HEE.o,if_pos hin]
    have HEV:=aa hEv;clear hin hEv;refine(Dk S g n bl' _ _ wr HD.o i x hxb).mono ?_;rintro e w2 ⟨rfl,E2⟩;have R2:=aa (R1.o.later E2.o R1.o.lt);obtain⟨r0,r1,r2,r3,r4,r5,r6,r7⟩:=Bx.bC R2.o;have rz:=R2.o.frozen;obtain⟨W6,hW6⟩:∃ W6:World,Hid (W6=aR w2 w.heap.size 0 x):=⟨_,rfl⟩
    have XF:=aa (show Gs W6 w.heap.size x by rw[hW6.o];exact eg R2.o x);have BF:=aa (show Gq w W6 by rw[hW6.o];exact bP (D0.o.trans ((hB.o.trans (E2.o.mono hB.o.size)).mono D0.o.size)) (Gi _) _ _);unfold aR at hW6;simp only[Nat.zero_add] at hW6;clear hxb;go_wp2_with fail;rw[←hW6.o];obtain⟨t0,t1,t2,t3,t4,t5,t6,t7⟩:=Bx.bC XF.o;exact bodyPost_ret (v:=.tuple #[.agg #[.int .u8 x.z0,.int .u8 x.z1,.int .u8 x.z2,.int .u8 x.z3,.int .u8 x.z4,.int .u8 x.z5,.int .u8 x.z6,.int .u8 x.z7],.nilIface]) (by simp[results,Tryz.results26,go_sem,t0,t1,t2,t3,t4,t5,t6,t7]) rfl ⟨by rw[HEV.o],BF⟩
   ·have hxz:x=zB:=by
     rcases HXX.o with ⟨h1,h2,h3⟩|⟨_,h2⟩
     ·exact absurd ⟨h1,h2⟩ hin
     ·exact h2
    have hEv:E=.iface 28 (.int .i64 1):=by rw[HEE.o,if_neg hin]
    have HEV:=aa hEv;subst hxz;clear hEv;refine(Bm S g n bl' _ _ wr HD.o at_ (by omega)).mono ?_;rintro e w2 ⟨rfl,E2⟩;have HIN:=aa hin;clear hin;have R2:=aa (R1.o.later E2.o R1.o.lt);obtain⟨r0,r1,r2,r3,r4,r5,r6,r7⟩:=Bx.bC R2.o;have rz:=R2.o.frozen;obtain⟨W6,hW6⟩:∃ W6:World,Hid (W6=aR w2 w.heap.size 0 zB):=⟨_,rfl⟩
    have XF:=aa (show Gs W6 w.heap.size zB by rw[hW6.o];exact eg R2.o zB);have BF:=aa (show Gq w W6 by rw[hW6.o];exact bP (D0.o.trans ((hB.o.trans (E2.o.mono hB.o.size)).mono D0.o.size)) (Gi _) _ _);unfold aR at hW6;simp only[Nat.zero_add] at hW6;go_wp2_with fail;have hW7:Hid (W6=_):=hW6;unfold zB at hW7;simp only at hW7;rw[←hW7.o];obtain⟨t0,t1,t2,t3,t4,t5,t6,t7⟩:=Bx.bC XF.o;exact bodyPost_ret (v:=.tuple #[.agg #[.int .u8 zB.z0,.int .u8 zB.z1,.int .u8 zB.z2,.int .u8 zB.z3,.int .u8 zB.z4,.int .u8 zB.z5,.int .u8 zB.z6,.int .u8 zB.z7],.iface 28 (.int .i64 1)]) (by simp[results,Tryz.results26,go_sem,t0,t1,t2,t3,t4,t5,t6,t7]) rfl ⟨by rw[HEV.o],BF⟩
end Go.Proofs.YtbicgjafjjihdaaGreatDoor
