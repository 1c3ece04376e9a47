/- Part. -/
import Derived.Test.YtbicgjafjjihdaaGreatZ25
import Derived.Test.YtbicgjafjjihdaaGreatZ27
set_option maxHeartbeats 16000000
set_option maxRecDepth 100000
namespace Go.Proofs.YtbicgjafjjihdaaGreat
open Go.RowKit
section
def SnE (S:Nat→Prop) (w:World) (n:Nat) (ae:List (List B8)) (hv:Nat) (es:List MapEntry):Prop :=
 ∀ e∈es,∃ (k:Nat) (l:List B8) (a:Option Addr) (c:Nat),e.key=.int .i64 (k:Int)∧k≤hv∧ae[k]?=some l∧e.val=.slice a n c∧BLo S w a n l∧n≤c
theorem SnE.ext {S:Nat→Prop} {w w':World} {n:Nat} {ae:List (List B8)} {hv:Nat} {es:List MapEntry} (h:SnE S w n ae hv es) (hx:Ex S w w'):SnE S w' n ae hv es:=fun e he=>by
 obtain⟨k,l,a,c,h1,h2,h3,h4,h5,h6⟩:=h e he;exact⟨k,l,a,c,h1,h2,h3,h4,h5.ext hx,h6⟩
theorem SnE.wd {S S':Nat→Prop} {w:World} {n:Nat} {ae:List (List B8)} {hv:Nat} {es:List MapEntry} (h:SnE S w n ae hv es) (hw:Wd S S' w):SnE S' w n ae hv es:=fun e he=>by
 obtain⟨k,l,a,c,h1,h2,h3,h4,h5,h6⟩:=h e he;exact⟨k,l,a,c,h1,h2,h3,h4,h5.wd hw,h6⟩
def SnK (es:List MapEntry) (lo:Int) (hv:Nat):Prop:=∀ k:Nat,lo≤(k:Int)→k≤hv→∃ e∈es,e.key=.int .i64 (k:Int)
def Snp (S:Nat→Prop) (w:World) (m n:Nat) (ae:List (List B8)) (lo:Int) (hv:Nat):Prop :=
 ∃ es ck,Mp 3 w m es ck∧SnE S w n ae hv es∧SnK es lo hv
theorem Snp.ext {S T:Nat→Prop} {w w':World} {m n:Nat} {ae:List (List B8)} {lo:Int} {hv:Nat} (h:Snp S w m n ae lo hv) (hx:Ex T w w') (hT:∀ b,T b→S b) (hm:¬T m):Snp S w' m n ae lo hv:=by
 obtain⟨es,ck,h1,h2,h3⟩:=h;exact⟨es,ck,{h1 with at_:=(hx.block m h1.ltm hm).trans h1.at_},h2.ext (hx.mono (fun b _ hb=>hT b hb)),h3⟩
theorem Snp.wd {S S':Nat→Prop} {w:World} {m n:Nat} {ae:List (List B8)} {lo:Int} {hv:Nat} (h:Snp S w m n ae lo hv) (hw:Wd S S' w):Snp S' w m n ae lo hv:=by
 obtain⟨es,ck,h1,h2,h3⟩:=h;exact⟨es,ck,h1,h2.wd hw,h3⟩
theorem Snp.low {S:Nat→Prop} {w:World} {m n:Nat} {ae:List (List B8)} {lo lo':Int} {hv:Nat} (h:Snp S w m n ae lo hv) (hl:lo≤lo'):Snp S w m n ae lo' hv:=by
 obtain⟨es,ck,h1,h2,h3⟩:=h;exact⟨es,ck,h1,h2,fun k hk=>h3 k (by omega)⟩
theorem Snp.is {S:Nat→Prop} {w:World} {m n:Nat} {ae:List (List B8)} {lo:Int} {hv:Nat} (h:Snp S w m n ae lo hv):∃ es ck,w.heap[m]?=some (.map es ck):=by
 obtain⟨es,ck,h1,_⟩:=h;exact⟨_,_,h1.at_⟩
abbrev Pf_:=Mx.Mir.Fs Fr (List B8)
def Pbx (w:World) (P g n:Nat) (num:Int) (oa:Option Addr) (on oc:Nat) (sa:Option Addr) (sn sc:Nat) (be:Bool) (m:Nat) (safe ses base:Int) (qa:Option Addr) (qn qc:Nat) (known:Bool) (goal:Int) (ha:Option Addr) (hn hc:Nat):Prop :=
 Bx w P #[.pointer (some ⟨g,0,none⟩),.int .i64 (n:Int),.int .i64 num,.slice oa on oc,.slice sa sn sc,.bool be,.map (some m),.int .i64 safe,.int .i64 ses,.int .i64 base,.slice qa qn qc,.bool known,.int .i64 goal,.slice ha hn hc] 96
section
variable {w:World} {P g n:Nat} {num:Int} {oa:Option Addr} {on oc:Nat} {sa:Option Addr} {sn sc:Nat} {be:Bool} {m:Nat} {safe ses base:Int} {qa:Option Addr} {qn qc:Nat} {known:Bool} {goal:Int} {ha:Option Addr} {hn hc:Nat}
theorem Pbx.cells (h:Pbx w P g n num oa on oc sa sn sc be m safe ses base qa qn qc known goal ha hn hc) :
 w.cell? ⟨P,0,none⟩=some (.pointer (some ⟨g,0,none⟩))∧w.cell? ⟨P,1,none⟩=some (.int .i64 (n:Int))∧w.cell? ⟨P,2,none⟩=some (.int .i64 num)∧w.cell? ⟨P,3,none⟩=some (.slice oa on oc)∧w.cell? ⟨P,4,none⟩=some (.slice sa sn sc)∧w.cell? ⟨P,5,none⟩=some (.bool be)∧w.cell? ⟨P,6,none⟩=some (.map (some m)) ∧
 w.cell? ⟨P,7,none⟩=some (.int .i64 safe)∧w.cell? ⟨P,8,none⟩=some (.int .i64 ses)∧w.cell? ⟨P,9,none⟩=some (.int .i64 base)∧w.cell? ⟨P,10,none⟩=some (.slice qa qn qc)∧w.cell? ⟨P,11,none⟩=some (.bool known)∧w.cell? ⟨P,12,none⟩=some (.int .i64 goal)∧w.cell? ⟨P,13,none⟩=some (.slice ha hn hc) :=
 ⟨Bx.cell h 0,Bx.cell h 1,Bx.cell h 2,Bx.cell h 3,Bx.cell h 4,Bx.cell h 5,Bx.cell h 6,Bx.cell h 7,Bx.cell h 8,Bx.cell h 9,Bx.cell h 10,Bx.cell h 11,Bx.cell h 12,Bx.cell h 13⟩
theorem fm:iR #[.pointer (some ⟨g,0,none⟩),.int .i64 (n:Int),.int .i64 num,.slice oa on oc,.slice sa sn sc,.bool be,.map (some m),.int .i64 safe,.int .i64 ses,.int .i64 base,.slice qa qn qc,.bool known,.int .i64 goal,.slice ha hn hc]:=by
 intro j v
 match j with
 | 0 | 1 | 2 | 3 | 4 | 5 | 6 | 7 | 8 | 9 | 10 | 11 | 12 | 13 => simp
 | j + 14 => simp
end
structure PrR (S:Nat→Prop) (w:World) (n:Nat) (ae:List (List B8)) (b:Bu) (p:Pf_) (g:Nat) (oa:Option Addr) (on oc:Nat) (sa:Option Addr) (sn sc:Nat) (m:Nat) (qa:Option Addr) (qn qc:Nat) (ha:Option Addr) (hn hc:Nat):Prop where
 nd:∃ bl,ae[p.ao]?=some bl∧Nd S w g n bl (p.ao:Int) (p.s:Int)
 bu:Buo S w oa on oc sa sn sc b.op b.se
 mp:Snp S w m n ae (b.num-(b.se.length:Int)) p.ao
 qu:FLF (cM S) w qa qn p.queue
 qc:qn≤qc
 hd:BLo S w ha hn p.had
 hc:hn≤hc
 num:b.num=(p.ao:Int)
section
variable {A S S' T:Nat→Prop} {w w':World} {P n:Nat} {ae:List (List B8)} {b:Bu} {p:Pf_} {g:Nat} {oa:Option Addr} {on oc:Nat} {sa:Option Addr} {sn sc:Nat} {m:Nat} {qa:Option Addr} {qn qc:Nat} {ha:Option Addr} {hn hc:Nat}
theorem PrR.ext (h:PrR S w n ae b p g oa on oc sa sn sc m qa qn qc ha hn hc) (hx:Ex T w w') (hT:∀ b,T b→S b) (hg:¬T g) (hm:¬T m):PrR S w' n ae b p g oa on oc sa sn sc m qa qn qc ha hn hc:=by
 have hS:=hx.mono (fun b _ hb=>hT b hb);obtain⟨bl,h1,h2⟩:=h.nd;exact⟨⟨bl,h1,h2.ext hx hT hg⟩,h.bu.ext hS,h.mp.ext hx hT hm,h.qu.oJ hS,h.qc,h.hd.ext hS,h.hc,h.num⟩
theorem PrR.later (h:PrR S w n ae b p g oa on oc sa sn sc m qa qn qc ha hn hc) (hb:Below w.heap.size w w'):PrR S w' n ae b p g oa on oc sa sn sc m qa qn qc ha hn hc :=
 h.ext (T:=fun _=>False) (Ex.below hb) (fun _ hh=>hh.elim) (fun hh=>hh) (fun hh=>hh)
theorem PrR.wd (h:PrR S w n ae b p g oa on oc sa sn sc m qa qn qc ha hn hc) (hw:Wd S S' w) (hg:S' g):PrR S' w n ae b p g oa on oc sa sn sc m qa qn qc ha hn hc:=by
 obtain⟨bl,h1,h2⟩:=h.nd;exact⟨⟨bl,h1,h2.wd hw hg⟩,h.bu.wd hw,h.mp.wd hw,h.qu.wd hw,h.qc,h.hd.wd hw,h.hc,h.num⟩
structure PrX (A S:Nat→Prop) (w:World) (P n:Nat) (ae:List (List B8)) (b:Bu) (p:Pf_) (g:Nat) (oa:Option Addr) (on oc:Nat) (sa:Option Addr) (sn sc:Nat) (m:Nat) (qa:Option Addr) (qn qc:Nat) (ha:Option Addr) (hn hc:Nat):Prop where
 bx:Pbx w P g n b.num oa on oc sa sn sc b.be m (p.safe:Int) (p.s:Int) (p.base:Int) qa qn qc p.known (p.goal:Int) ha hn hc
 r:PrR S w n ae b p g oa on oc sa sn sc m qa qn qc ha hn hc
 aP:A P
 ag:A g
 am:A m
 sub:∀ b,A b→S b
theorem PrX.ne (h:PrX A S w P n ae b p g oa on oc sa sn sc m qa qn qc ha hn hc):P≠g∧P≠m∧g≠m:=by
 obtain⟨bl,_,_,_,_,_,_,_,_,T,_⟩:=h.r.nd;obtain⟨es,ck,hm⟩:=h.r.mp.is;have h1:w.heap[P]?=some (.cells _ 96 (0,0)):=h.bx;have h2:w.heap[g]?=some (.cells _ 134 (0,0)):=T.bx;refine⟨?_,?_,?_⟩
 ·rintro rfl
  rw[h1] at h2;simp at h2
 ·rintro rfl
  rw[h1] at hm;cases hm
 ·rintro rfl
  rw[h2] at hm;cases hm
def PrW (A S:Nat→Prop) (w:World) (P n:Nat) (ae:List (List B8)) (b:Bu) (p:Pf_):Prop :=
 ∃ g oa on oc sa sn sc m qa qn qc ha hn hc,PrX A S w P n ae b p g oa on oc sa sn sc m qa qn qc ha hn hc
theorem PrX.frame (h:PrX A S w P n ae b p g oa on oc sa sn sc m qa qn qc ha hn hc) (hx:Ex T w w') (hT:∀ b,T b→S b) (hA:∀ b,A b→¬T b):PrX A S w' P n ae b p g oa on oc sa sn sc m qa qn qc ha hn hc :=
 ⟨Ex.bx hx h.bx (hA _ h.aP),h.r.ext hx hT (hA _ h.ag) (hA _ h.am),h.aP,h.ag,h.am,h.sub⟩
theorem PrX.wd (h:PrX A S w P n ae b p g oa on oc sa sn sc m qa qn qc ha hn hc) (hw:Wd S S' w) (hA:∀ b,A b→S' b):PrX A S' w P n ae b p g oa on oc sa sn sc m qa qn qc ha hn hc :=
 ⟨h.bx,h.r.wd hw (hA _ h.ag),h.aP,h.ag,h.am,hA⟩
theorem PrX.later (h:PrX A S w P n ae b p g oa on oc sa sn sc m qa qn qc ha hn hc) (hb:Below w.heap.size w w'):PrX A S w' P n ae b p g oa on oc sa sn sc m qa qn qc ha hn hc :=
 h.frame (T:=fun _=>False) (Ex.below hb) (fun _ hh=>hh.elim) (fun _ _ hh=>hh)
theorem PrW.frame (h:PrW A S w P n ae b p) (hx:Ex T w w') (hT:∀ b,T b→S b) (hA:∀ b,A b→¬T b):PrW A S w' P n ae b p:=by
 obtain⟨g,oa,on,oc,sa,sn,sc,m,qa,qn,qc,ha,hn,hc,X⟩:=h;exact⟨g,oa,on,oc,sa,sn,sc,m,qa,qn,qc,ha,hn,hc,X.frame hx hT hA⟩
theorem PrW.wd (h:PrW A S w P n ae b p) (hw:Wd S S' w) (hA:∀ b,A b→S' b):PrW A S' w P n ae b p:=by
 obtain⟨g,oa,on,oc,sa,sn,sc,m,qa,qn,qc,ha,hn,hc,X⟩:=h;exact⟨g,oa,on,oc,sa,sn,sc,m,qa,qn,qc,ha,hn,hc,X.wd hw hA⟩
theorem PrW.later (h:PrW A S w P n ae b p) (hb:Below w.heap.size w w'):PrW A S w' P n ae b p:=by
 obtain⟨g,oa,on,oc,sa,sn,sc,m,qa,qn,qc,ha,hn,hc,X⟩:=h;exact⟨g,oa,on,oc,sa,sn,sc,m,qa,qn,qc,ha,hn,hc,X.later hb⟩
end
structure PrD (A S:Nat→Prop) (w w':World) (P n:Nat) (ae:List (List B8)) (b:Bu) (p:Pf_):Prop where
 mu:Mut S w'
 pr:PrW A S w' P n ae b p
 ext:Ex A w w'
theorem ur (S:Nat→Prop) (b:Bu) (oa:Option Addr) (on oc:Nat) (sa:Option Addr) (sn sc:Nat) (n:Nat) (q:Pt) (w:World) (hm:Mut S w) (hb:Buo S w oa on oc sa sn sc b.op b.se) (hM:Mx.aL b n=0) (h0:0≤q.at_) (h1:q.at_<(n:Int)) :
 Calls Tryz.prog 39 #[.agg #[.int .i64 b.num,.slice oa on oc,.slice sa sn sc,.bool b.be],.int .i64 (n:Int),.agg #[.int .i64 q.at_,.int .u8 q.d.z0,.int .u8 q.d.z1,.int .u8 q.d.z2,.int .u8 q.d.z3,.int .u8 q.d.z4,.int .u8 q.d.z5,.int .u8 q.d.z6,.int .u8 q.d.z7]] w fun e w' =>
  ∃ oa' on' oc' sa' sn' sc',e=.returned (.tuple #[.agg #[.int .i64 b.num,.slice oa' on' oc',.slice sa' sn' sc',.bool b.be],.nilIface])∧Hid (Buo S w' oa' on' oc' sa' sn' sc' (Mx.fE b q).op (Mx.fE b q).se)∧Hid (Below w.heap.size w w'):=by
 have ha:=Mx.xF (p:=q) hM (by omega);refine(uq b.num oa on oc sa sn sc b.be b.op b.se n q.at_ q.d w hb.op.1 hb.se.el (fq hM)).mono ?_;rintro e w' ⟨v,rfl,h2,h3⟩;have e1:Mx.added ⟨b.num,b.op,b.se,b.be⟩ n ⟨q.at_,q.d⟩=Mx.fE b q:=Mx.rp ha;have e2:Mx.ig ⟨b.num,b.op,b.se,b.be⟩ n ⟨q.at_,q.d⟩=0:=ha;rw[e1] at h2;rw[e2];obtain⟨oa',on',oc',sa',sn',sc',hv,hB⟩:=h2.o.buo hm (FG _);exact⟨oa',on',oc',sa',sn',sc',by rw[hv];rfl,aa hB,h3⟩
theorem rB (S:Nat→Prop) (b:Bu) (oa:Option Addr) (on oc:Nat) (sa:Option Addr) (sn sc:Nat) (n:Nat) (q:Pt) (w:World) (hm:Mut S w) (hb:Buo S w oa on oc sa sn sc b.op b.se) (hM:Mx.aL b n=0) (h0:q.at_<0∨(n:Int)≤q.at_) :
 Calls Tryz.prog 39 #[.agg #[.int .i64 b.num,.slice oa on oc,.slice sa sn sc,.bool b.be],.int .i64 (n:Int),.agg #[.int .i64 q.at_,.int .u8 q.d.z0,.int .u8 q.d.z1,.int .u8 q.d.z2,.int .u8 q.d.z3,.int .u8 q.d.z4,.int .u8 q.d.z5,.int .u8 q.d.z6,.int .u8 q.d.z7]] w fun e w' =>
  ∃ oa' on' oc' sa' sn' sc',e=.returned (.tuple #[.agg #[.int .i64 0,.slice oa' on' oc',.slice sa' sn' sc',.bool false],.iface 23 (.int .i64 1)])∧Hid (Below w.heap.size w w'):=by
 have ha:=Mx.rq (p:=q) hM h0;refine(uq b.num oa on oc sa sn sc b.be b.op b.se n q.at_ q.d w hb.op.1 hb.se.el (fq hM)).mono ?_;rintro e w' ⟨v,rfl,h2,h3⟩;have e1:Mx.added ⟨b.num,b.op,b.se,b.be⟩ n ⟨q.at_,q.d⟩=Mx.zBu:=Mx.jg ha (by omega);have e2:Mx.ig ⟨b.num,b.op,b.se,b.be⟩ n ⟨q.at_,q.d⟩=1:=ha;rw[e1] at h2;rw[e2];obtain⟨oa',on',oc',sa',sn',sc',hv,hB⟩:=h2.o.buo hm (FG _);exact⟨oa',on',oc',sa',sn',sc',by rw[hv];rfl,h3⟩
theorem Aq (S:Nat→Prop) (b:Bu) (oa:Option Addr) (on oc:Nat) (sa:Option Addr) (sn sc:Nat) (n:Nat) (w:World) (hm:Mut S w) (hb:Buo S w oa on oc sa sn sc b.op b.se) (hM:Mx.aL b n=0) (h0:b.num≠2147483647) :
 Calls Tryz.prog 41 #[.agg #[.int .i64 b.num,.slice oa on oc,.slice sa sn sc,.bool b.be],.int .i64 (n:Int)] w fun e w' =>
  ∃ oa' on' oc' sa' sn' sc',e=.returned (.tuple #[.agg #[.int .i64 (b.num+1),.slice oa' on' oc',.slice sa' sn' sc',.bool (Mx.dy b)],.nilIface])∧Hid (Buo S w' oa' on' oc' sa' sn' sc' (Mx.bS b).op (Mx.bS b).se)∧Hid (Below w.heap.size w w'):=by
 have ha:=Mx.Ae hM h0;refine(BV b.num oa on oc sa sn sc b.be b.op b.se n w hb.op.1 hb.se.el (fq hM)).mono ?_;rintro e w' ⟨v,rfl,h2,h3⟩;have e1:Mx.j5 ⟨b.num,b.op,b.se,b.be⟩ n=Mx.bS b:=Mx.qm ha;have e2:Mx.jd ⟨b.num,b.op,b.se,b.be⟩ n=0:=ha;rw[e1] at h2;rw[e2];obtain⟨oa',on',oc',sa',sn',sc',hv,hB⟩:=h2.o.buo hm (FG _);exact⟨oa',on',oc',sa',sn',sc',by rw[hv];rfl,aa hB,h3⟩
theorem Am (S:Nat→Prop) (b:Bu) (oa:Option Addr) (on oc:Nat) (sa:Option Addr) (sn sc:Nat) (n:Nat) (k:Int) (w:World) (hm:Mut S w) (hb:Buo S w oa on oc sa sn sc b.op b.se) (hM:Mx.aL b n=0) (h0:0≤k) (h1:k≤b.num) :
 Calls Tryz.prog 116 #[.agg #[.int .i64 b.num,.slice oa on oc,.slice sa sn sc,.bool b.be],.int .i64 (n:Int),.int .i64 k] w fun e w' =>
  ∃ oa' on' oc' sa' sn' sc',e=.returned (.tuple #[.agg #[.int .i64 b.num,.slice oa' on' oc',.slice sa' sn' sc',.bool (Mx.cF b k).be],.nilIface])∧Hid (Buo S w' oa' on' oc' sa' sn' sc' (Mx.cF b k).op (Mx.cF b k).se)∧Hid (Below w.heap.size w w'):=by
 have ha:=Mx.nQ (k:=k) hM (by omega);refine(AH b.num oa on oc sa sn sc b.be b.op b.se n k w hb.op.1 hb.se.el (fq hM) hb.sc).mono ?_;rintro e w' ⟨v,rfl,h2,h3⟩;have e1:Mx.dropped ⟨b.num,b.op,b.se,b.be⟩ n k=Mx.cF b k:=Mx.nC ha;have e2:Mx.cW ⟨b.num,b.op,b.se,b.be⟩ n k=0:=ha;rw[e1] at h2;rw[e2];obtain⟨oa',on',oc',sa',sn',sc',hv,hB⟩:=h2.o.buo hm (FG _);exact⟨oa',on',oc',sa',sn',sc',by rw[hv];rfl,aa hB,h3⟩
end
theorem eE (P:Nat) (num:Int) (w:World) (hc:w.cell? ⟨P,2,none⟩=some (.int .i64 num)) :
 Calls Tryz.prog 34 #[.pointer (some ⟨P,0,none⟩)] w fun e w'=>e=.returned (.int .i64 num)∧w'=w:=by
 go_enter Tryz.func34,Tryz.ntmps34;go_wp2_with fail;go_ret;exact⟨rfl,rfl⟩
def w9 (w:World) (P:Nat) (v8 v9 v10 v11 v13:Value):World:=((((w.setCell ⟨P,8,none⟩ v8).setCell ⟨P,9,none⟩ v9).setCell ⟨P,10,none⟩ v10).setCell ⟨P,11,none⟩ v11).setCell ⟨P,13,none⟩ v13
theorem jJ (w:World) (P:Nat) (v8 v9 v10 v11 v13:Value):w.grownBy (w9 w P v8 v9 v10 v11 v13) (some P):=al (al (al (al (al (ar w _) _ _) _ _) _ _) _ _) _ _
theorem PrX.opened {A S:Nat→Prop} {w:World} {P n:Nat} {ae:List (List B8)} {b:Bu} {g:Nat} {oa:Option Addr} {on oc:Nat} {sa:Option Addr} {sn sc:Nat} {m:Nat} {qa:Option Addr} {qn qc:Nat} {ha:Option Addr} {hn hc:Nat} {s ao safe goal:Nat} {ses0 base0:Int} {known0:Bool} (hx:Pbx w P g n b.num oa on oc sa sn sc b.be m (safe:Int) ses0 base0 qa qn qc known0 (goal:Int) ha hn hc)
 (hr:PrR S w n ae b ⟨ao,s,safe,false,goal,0,[],[]⟩ g oa on oc sa sn sc m none 0 0 none 0 0) (aP:A P) (ag:A g) (am:A m) (sub:∀ b,A b→S b) (h1:P≠g) (h2:P≠m) :
 PrX A S (w9 w P (.int .i64 (s:Int)) (.int .i64 0) (.slice none 0 0) (.bool false) (.slice none 0 0)) P n ae b ⟨ao,s,safe,false,goal,0,[],[]⟩ g oa on oc sa sn sc m none 0 0 none 0 0:=by
 refine⟨?_,?_,aP,ag,am,sub⟩
 ·exact((((Bx.set hx 8 _).set 9 _).set 10 _).set 11 _).set 13 _
 ·exact hr.ext (Ex.one (jJ w P _ _ _ _ _)) (fun b hb=>by rw[hb];exact sub _ aP) (fun e=>h1 e.symm) (fun e=>h2 e.symm)
theorem pY (A S:Nat→Prop) (P n:Nat) (ae:List (List B8)) (b:Bu) (w:World) (hm:Mut S w) (g:Nat) (oa:Option Addr) (on oc:Nat) (sa:Option Addr) (sn sc:Nat) (m:Nat) (qa:Option Addr) (qn qc:Nat) (ha:Option Addr) (hn hc:Nat) (ao safe goal:Nat) (ses0 base0:Int) (known0:Bool) (s0:Int)
 (hx:Pbx w P g n b.num oa on oc sa sn sc b.be m (safe:Int) ses0 base0 qa qn qc known0 (goal:Int) ha hn hc) (bl:List B8) (hbl:ae[ao]?=some bl) (hnd:Nd S w g n bl (ao:Int) s0) (hbu:Buo S w oa on oc sa sn sc b.op b.se) (hmp:Snp S w m n ae (b.num-(b.se.length:Int)) ao) (hnum:b.num=(ao:Int)) (aP:A P) (ag:A g) (am:A m) (sub:∀ b,A b→S b) (NE:P≠g∧P≠m∧g≠m) (s:Nat) (hs:(s:Int)≤2147483647) (hh:(ao:Int)≤2147483647) :
 Calls Tryz.prog 51 #[.pointer (some ⟨P,0,none⟩),.int .i64 (s:Int)] w fun e w'=>e=.returned .nilIface∧Hid (PrD A S w w' P n ae b ⟨ao,s,safe,false,goal,0,[],[]⟩):=by
 obtain⟨x0,x1,x2,x3,x4,x5,x6,x7,x8,x9,x10,x11,x12,x13⟩:=hx.cells;have HX:=aa hx;have HM:=aa hm;have NE:=aa NE;rw[hnum] at x2;have HS:=aa hs;have HH:=aa hh;have HN:=aa hnum;have HB:=aa hbl;have HD:=aa hnd;have HU:=aa hbu;have HP:=aa hmp;clear hx hm hs hh hnum hbl hnd hbu hmp x1 x3 x4 x5 x6 x7 x8 x9 x10 x11 x12 x13;go_enter Tryz.func51,Tryz.ntmps51;go_upto_region 1 with fail
 go_region_held3 (fun w'=>w'.cell? ⟨P,0,none⟩=some (.pointer (some ⟨g,0,none⟩))∧w'.cell? ⟨P,2,none⟩=some (.int .i64 (ao:Int)))
  (first
    | with_reducible exact ⟨x0, x2⟩
    |(simp only[an];with_reducible exact⟨x0,x2⟩)
    | with_reducible exact ⟨y0, y2⟩)
  (first
    |(go_at_call 34;(with_reducible refine(eE P (ao:Int) _ (by first|exact x2|(simp only[an];exact x2))).mono ?_);rintro e wz ⟨rfl,hz⟩;obtain rfl:=hz.symm;clear hz)
    |(go_at_call 42;(with_reducible refine(iJ S g n bl _ _ w.drew (HM.o.later (Below.refl _ _).drew) (HD.o.later (Below.refl _ _).drew) none 0 0 [] (PL.nil _) (fun _ h=>by simp at h) (Nat.zero_le _) (ao:Int) (s:Int) (by omega) HH.o (by omega) HS.o).mono ?_);rintro e w2 ⟨rfl,N2,G2,M2⟩;have y0:=G2.o.cell (row:=some g) (a:=⟨P,0,none⟩) x0 (fun e=>NE.o.1 (FC e));have y2:=G2.o.cell (row:=some g) (a:=⟨P,2,none⟩) x2 (fun e=>NE.o.1 (FC e))))
 all_goals
  clear x0 x2 y0 y2;have GW:=aa (show w.grownBy w2 (some g) from(bG (Below.refl _ _).drew (some g)).trans G2.o);have XE:=aa (Ex.one GW.o);have X2:=aa (show Pbx w2 P g n b.num oa on oc sa sn sc b.be m (safe:Int) ses0 base0 qa qn qc known0 (goal:Int) ha hn hc from Ex.bx XE.o HX.o NE.o.1);have R2:=aa (show PrR S w2 n ae b ⟨ao,s,safe,false,goal,0,[],[]⟩ g oa on oc sa sn sc m none 0 0 none 0 0 from by
   have hE:Ex S w w2:=XE.o.mono (fun b _ hb=>by rw[hb];exact sub _ ag);exact⟨⟨bl,HB.o,N2.o⟩,HU.o.ext hE,HP.o.ext XE.o (fun b hb=>by rw[hb];exact sub _ ag) (fun e=>NE.o.2.2 e.symm),FLF.nil _ w2,FG _,BLo.nil S w2,FG _,HN.o⟩)
  obtain⟨x0,x1,x2,x3,x4,x5,x6,x7,x8,x9,x10,x11,x12,x13⟩:=X2.o.cells;have xz:=Bx.frozen X2.o;go_wp2_with fail;have XF:=aa (PrX.opened X2.o R2.o aP ag am sub NE.o.1 NE.o.2.1);have EF:=aa (show Ex A w (w9 w2 P (.int .i64 (s:Int)) (.int .i64 0) (.slice none 0 0) (.bool false) (.slice none 0 0)) from(XE.o.mono (fun b _ hb=>by rw[hb];exact ag)).trans ((Ex.one (jJ w2 P _ _ _ _ _)).mono (fun b _ hb=>by rw[hb];exact aP)));have MF:=aa (M2.o.dY (Ex.one (jJ w2 P (.int .i64 (s:Int)) (.int .i64 0) (.slice none 0 0) (.bool false) (.slice none 0 0))) XF.o.bx fm);exact bodyPost_ret (v:=.nilIface) (by simp[results,Tryz.results51,go_sem]) rfl ⟨rfl,aa ⟨MF.o,⟨g,oa,on,oc,sa,sn,sc,m,_,_,_,_,_,_,XF.o⟩,EF.o⟩⟩
theorem BC (A S:Nat→Prop) (P n:Nat) (ae:List (List B8)) (b:Bu) (p:Pf_) (w:World) (hm:Mut S w) (hp:PrW A S w P n ae b p) (s:Nat) (hs:(s:Int)≤2147483647) (hh:(p.ao:Int)≤2147483647) :
 Calls Tryz.prog 51 #[.pointer (some ⟨P,0,none⟩),.int .i64 (s:Int)] w fun e w'=>e=.returned .nilIface∧Hid (PrD A S w w' P n ae b ⟨p.ao,s,p.safe,false,p.goal,0,[],[]⟩):=by
 obtain⟨g,oa,on,oc,sa,sn,sc,m,qa,qn,qc,ha,hn,hc,X⟩:=hp;obtain⟨bl,hbl,hnd⟩:=X.r.nd;exact pY A S P n ae b w hm g oa on oc sa sn sc m qa qn qc ha hn hc p.ao p.safe p.goal p.s p.base p.known p.s X.bx bl hbl hnd X.r.bu X.r.mp X.r.num X.aP X.ag X.am X.sub X.ne s hs hh
def nX (w:World) (P:Nat) (v2 v3 v4 v5:Value):World:=(((w.setCell ⟨P,2,none⟩ v2).setCell ⟨P,3,none⟩ v3).setCell ⟨P,4,none⟩ v4).setCell ⟨P,5,none⟩ v5
theorem gS (w:World) (P:Nat) (v2 v3 v4 v5:Value):w.grownBy (nX w P v2 v3 v4 v5) (some P):=al (al (al (al (ar w _) _ _) _ _) _ _) _ _
theorem zH (A S:Nat→Prop) (P n:Nat) (ae:List (List B8)) (b:Bu) (p:Pf_) (w:World) (hm:Mut S w) (hp:PrW A S w P n ae b p) (hb:Mx.aL b n=0) (at_:Int) (d:B8) (h0:0≤at_) (h1:at_<(n:Int)) :
 Calls Tryz.prog 23 #[.pointer (some ⟨P,0,none⟩),.int .i64 at_,.agg #[.int .u8 d.z0,.int .u8 d.z1,.int .u8 d.z2,.int .u8 d.z3,.int .u8 d.z4,.int .u8 d.z5,.int .u8 d.z6,.int .u8 d.z7]] w fun e w'=>e=.returned .nilIface∧Hid (PrD A S w w' P n ae (Mx.fE b ⟨at_,d⟩) p):=by
 obtain⟨g,oa,on,oc,sa,sn,sc,m,qa,qn,qc,ha,hn,hc,X⟩:=hp;obtain⟨W0,hW0⟩:∃ W0:World,Hid (W0=w.alloc (.cells #[.int .u8 d.z0,.int .u8 d.z1,.int .u8 d.z2,.int .u8 d.z3,.int .u8 d.z4,.int .u8 d.z5,.int .u8 d.z6,.int .u8 d.z7] 25)):=⟨_,rfl⟩
 have B0:=bxA hW0;have D0:=beA hW0;have hwW:w.heap.size<W0.heap.size:=B0.o.lt;have HX:=aa (X.later D0.o);have HMW:=aa (hm.later D0.o);have NE:=aa X.ne;have HBM:=aa hb;have hPW:P<W0.heap.size:=Bx.lt HX.o.bx;clear X hm hb;go_enter Tryz.func23,Tryz.ntmps23;go_upto_region 1 with fail
 rw[←hW0.o];obtain⟨x0,x1,x2,x3,x4,x5,x6,x7,x8,x9,x10,x11,x12,x13⟩:=HX.o.bx.cells;obtain⟨u0,u1,u2,u3,u4,u5,u6,u7⟩:=Bx.bC B0.o;clear x0 x6 x7 x8 x9 x10 x11 x12 x13;have UB:=aa (show Buo S W0.drew oa on oc sa sn sc b.op b.se from HX.o.r.bu.ext (Ex.below (Below.refl _ _).drew));have UA:=aa (show Buo (fun b=>S b∨b=W0.heap.size) (W0.alloc (.cells #[.int .i64 0,.slice none 0 0,.slice none 0 0,.bool false] 90)).drew oa on oc sa sn sc b.op b.se from(HX.o.r.bu.wd ((Wd.refl S W0).add (FG _))).ext (Ex.below (af _ _).drew));have hl0:P<W0.heap.size:=(by assumption)
 have hl1:w.heap.size<W0.heap.size:=(by assumption)
 have hf0:¬W0.heap.size=P:=by omega
 have hf1:¬W0.heap.size=w.heap.size:=by omega
 have DA:=aa (show Below W0.heap.size W0 (W0.alloc (.cells #[.int .i64 0,.slice none 0 0,.slice none 0 0,.bool false] 90)).drew from(af _ _).drew);have DB:=aa (show Below W0.heap.size W0 W0.drew from(Below.refl _ _).drew);have XA:=aa (show Bx (W0.alloc (.cells #[.int .i64 0,.slice none 0 0,.slice none 0 0,.bool false] 90)).drew W0.heap.size #[.int .i64 0,.slice none 0 0,.slice none 0 0,.bool false] 90 from Bx.di W0 _ _);have hSx:¬S W0.heap.size:=fun hs=>by have:=HMW.o.lt _ hs;omega
 have MA:=aa (show Mut (fun b=>S b∨b=W0.heap.size) (W0.alloc (.cells #[.int .i64 0,.slice none 0 0,.slice none 0 0,.bool false] 90)).drew from(HMW.o.later DA.o).add XA.o (dA _ rfl));have MB:=aa (HMW.o.later DB.o);have WA:=aa (show Wd S (fun b=>S b∨b=W0.heap.size) W0 from(Wd.refl S W0).add (FG _));go_region_held3 (fun w'=>w'.cell? ⟨P,1,none⟩=some (.int .i64 (n:Int))∧w'.cell? ⟨P,2,none⟩=some (.int .i64 b.num)∧w'.cell? ⟨P,3,none⟩=some (.slice oa on oc)∧w'.cell? ⟨P,4,none⟩=some (.slice sa sn sc)∧w'.cell? ⟨P,5,none⟩=some (.bool b.be)∧w'.cell? ⟨w.heap.size,0,none⟩=some (.int .u8 d.z0)∧w'.cell? ⟨w.heap.size,1,none⟩=some (.int .u8 d.z1)∧w'.cell? ⟨w.heap.size,2,none⟩=some (.int .u8 d.z2)∧w'.cell? ⟨w.heap.size,3,none⟩=some (.int .u8 d.z3)∧w'.cell? ⟨w.heap.size,4,none⟩=some (.int .u8 d.z4)∧w'.cell? ⟨w.heap.size,5,none⟩=some (.int .u8 d.z5)∧w'.cell? ⟨w.heap.size,6,none⟩=some (.int .u8 d.z6)∧w'.cell? ⟨w.heap.size,7,none⟩=some (.int .u8 d.z7))
  (first
    | with_reducible exact ⟨x1, x2, x3, x4, x5, u0, u1, u2, u3, u4, u5, u6, u7⟩
    |(simp only[an];with_reducible exact⟨x1,x2,x3,x4,x5,u0,u1,u2,u3,u4,u5,u6,u7⟩)
    | with_reducible exact ⟨yx1, yx2, yx3, yx4, yx5, yu0, yu1, yu2, yu3, yu4, yu5, yu6, yu7⟩
    |(simp only[an,aq hl0,aq hl1];with_reducible exact⟨x1,x2,x3,x4,x5,u0,u1,u2,u3,u4,u5,u6,u7⟩)
    |(simp only[aq hy0,aq hy1];with_reducible exact⟨yx1,yx2,yx3,yx4,yx5,yu0,yu1,yu2,yu3,yu4,yu5,yu6,yu7⟩)
    |(simp only[aw hf0,aw hf1];with_reducible exact⟨yx1,yx2,yx3,yx4,yx5,yu0,yu1,yu2,yu3,yu4,yu5,yu6,yu7⟩))
  (first
    |(go_at_call 39;(with_reducible refine(ur S b oa on oc sa sn sc n ⟨at_,d⟩ W0.drew MB.o UB.o HBM.o h0 h1).mono ?_);rintro e w2 ⟨ka,kn,kc,la,ln,lc,rfl,U2,E2⟩;have D2:=aa (show Below W0.heap.size W0 w2 from DB.o.trans (E2.o.mono DB.o.size));have yx1:=(D2.o.cell (p:=⟨P,1,none⟩) hl0).trans x1;have yx2:=(D2.o.cell (p:=⟨P,2,none⟩) hl0).trans x2;have yx3:=(D2.o.cell (p:=⟨P,3,none⟩) hl0).trans x3;have yx4:=(D2.o.cell (p:=⟨P,4,none⟩) hl0).trans x4;have yx5:=(D2.o.cell (p:=⟨P,5,none⟩) hl0).trans x5;have yu0:=(D2.o.cell (p:=⟨w.heap.size,0,none⟩) hl1).trans u0;have yu1:=(D2.o.cell (p:=⟨w.heap.size,1,none⟩) hl1).trans u1;have yu2:=(D2.o.cell (p:=⟨w.heap.size,2,none⟩) hl1).trans u2;have yu3:=(D2.o.cell (p:=⟨w.heap.size,3,none⟩) hl1).trans u3;have yu4:=(D2.o.cell (p:=⟨w.heap.size,4,none⟩) hl1).trans u4;have yu5:=(D2.o.cell (p:=⟨w.heap.size,5,none⟩) hl1).trans u5;have yu6:=(D2.o.cell (p:=⟨w.heap.size,6,none⟩) hl1).trans u6;have yu7:=(D2.o.cell (p:=⟨w.heap.size,7,none⟩) hl1).trans u7;have hy0:P<w2.heap.size:=Fz hl0 D2.o.size;have hy1:w.heap.size<w2.heap.size:=Fz hl1 D2.o.size)
    |(go_at_call 39;(with_reducible refine(ur (fun b=>S b∨b=W0.heap.size) b oa on oc sa sn sc n ⟨at_,d⟩ (W0.alloc (.cells #[.int .i64 0,.slice none 0 0,.slice none 0 0,.bool false] 90)).drew MA.o UA.o HBM.o h0 h1).mono ?_);rintro e w2 ⟨ka,kn,kc,la,ln,lc,rfl,U2,E2⟩;have D2:=aa (show Below W0.heap.size W0 w2 from DA.o.trans (E2.o.mono DA.o.size));have yx1:=(D2.o.cell (p:=⟨P,1,none⟩) hl0).trans x1;have yx2:=(D2.o.cell (p:=⟨P,2,none⟩) hl0).trans x2;have yx3:=(D2.o.cell (p:=⟨P,3,none⟩) hl0).trans x3;have yx4:=(D2.o.cell (p:=⟨P,4,none⟩) hl0).trans x4;have yx5:=(D2.o.cell (p:=⟨P,5,none⟩) hl0).trans x5;have yu0:=(D2.o.cell (p:=⟨w.heap.size,0,none⟩) hl1).trans u0;have yu1:=(D2.o.cell (p:=⟨w.heap.size,1,none⟩) hl1).trans u1;have yu2:=(D2.o.cell (p:=⟨w.heap.size,2,none⟩) hl1).trans u2;have yu3:=(D2.o.cell (p:=⟨w.heap.size,3,none⟩) hl1).trans u3;have yu4:=(D2.o.cell (p:=⟨w.heap.size,4,none⟩) hl1).trans u4;have yu5:=(D2.o.cell (p:=⟨w.heap.size,5,none⟩) hl1).trans u5;have yu6:=(D2.o.cell (p:=⟨w.heap.size,6,none⟩) hl1).trans u6;have yu7:=(D2.o.cell (p:=⟨w.heap.size,7,none⟩) hl1).trans u7;have hy0:P<w2.heap.size:=Fz hl0 D2.o.size;have hy1:w.heap.size<w2.heap.size:=Fz hl1 D2.o.size;have X2:=aa (XA.o.later E2.o XA.o.lt);have zc0:w2.cell? ⟨W0.heap.size,0,none⟩=some (.int .i64 0):=X2.o.cell 0;have zc1:w2.cell? ⟨W0.heap.size,1,none⟩=some (.slice none 0 0):=X2.o.cell 1;have zc2:w2.cell? ⟨W0.heap.size,2,none⟩=some (.slice none 0 0):=X2.o.cell 2;have zc3:w2.cell? ⟨W0.heap.size,3,none⟩=some (.bool false):=X2.o.cell 3;have zz:=X2.o.frozen))
 all_goals
  first
   |(obtain⟨W3,hW3⟩:∃ W3:World,Hid (W3=w2.alloc (.cells #[.int .i64 b.num,.slice ka kn kc,.slice la ln lc,.bool b.be] 90)):=⟨_,rfl⟩
     obtain⟨gx,hgx⟩:∃ gx:Nat,Hid (gx=w2.heap.size):=⟨_,rfl⟩
     have X3:=aa (show Bx W3 gx #[.int .i64 b.num,.slice ka kn kc,.slice la ln lc,.bool b.be] 90 by rw[hW3.o,hgx.o];exact Bx.new w2 _ _);have F3:=beA hW3;have D3:=aa (show Below W0.heap.size W0 W3 from D2.o.trans (F3.o.mono D2.o.size));have U3:=aa (show Buo S W3 ka kn kc la ln lc (Mx.fE b ⟨at_,d⟩).op (Mx.fE b ⟨at_,d⟩).se from U2.o.ext (Ex.below F3.o));have hgw:W0.heap.size≤gx:=by rw[hgx.o];exact D2.o.size
     rw[←hW3.o,←hgx.o])
   |(obtain⟨W3,hW3⟩:∃ W3:World,Hid (W3=((((w2.setCell ⟨W0.heap.size,0,none⟩ (.int .i64 b.num)).setCell ⟨W0.heap.size,1,none⟩ (.slice ka kn kc)).setCell ⟨W0.heap.size,2,none⟩ (.slice la ln lc)).setCell ⟨W0.heap.size,3,none⟩ (.bool b.be))):=⟨_,rfl⟩
     obtain⟨gx,hgx⟩:∃ gx:Nat,Hid (gx=W0.heap.size):=⟨_,rfl⟩
     have U3:=aa (show w2.grownBy W3 (some W0.heap.size) by rw[hW3.o];exact al (al (al (al (ar _ _) _ _) _ _) _ _) _ _);have X3:=aa (show Bx W3 gx #[.int .i64 b.num,.slice ka kn kc,.slice la ln lc,.bool b.be] 90 by rw[hW3.o,hgx.o];exact(((X2.o.set 0 _).set 1 _).set 2 _).set 3 _);have D3:=aa (show Below W0.heap.size W0 W3 from aT D2.o U3.o (FG _));have Z3:=aa (show Ex (fun b=>b=W0.heap.size) w2 W3 from Ex.one U3.o);have U3:=aa (show Buo S W3 ka kn kc la ln lc (Mx.fE b ⟨at_,d⟩).op (Mx.fE b ⟨at_,d⟩).se from(U2.o.ext (Z3.o.mono (fun b _ hb=>.inr hb))).wd (fun b _ hs=>.inl hs));have hgw:W0.heap.size≤gx:=by rw[hgx.o];exact FG _
     rw[←hW3.o,←hgx.o])
  clear x1 x2 x3 x4 x5 u0 u1 u2 u3 u4 u5 u6 u7 yx1 yx2 yx3 yx4 yx5 yu0 yu1 yu2 yu3 yu4 yu5 yu6 yu7;try clear zc0 zc1 zc2 zc3 zz
  have X4:=aa (HX.o.later D3.o);obtain⟨t0,t1,t2,t3⟩:=Bx.four X3.o;have xz:=Bx.frozen X4.o.bx;obtain⟨x0,x1,x2,x3,x4,x5,x6,x7,x8,x9,x10,x11,x12,x13⟩:=X4.o.bx.cells;have hne:¬P=gx:=by omega
  have hne2:¬gx=P:=by omega
  go_wp2_with fail;have XF:=aa (show PrX A S (nX W3 P (.int .i64 b.num) (.slice ka kn kc) (.slice la ln lc) (.bool b.be)) P n ae (Mx.fE b ⟨at_,d⟩) p g ka kn kc la ln lc m qa qn qc ha hn hc from by
   have hr:PrR S W3 n ae (Mx.fE b ⟨at_,d⟩) p g ka kn kc la ln lc m qa qn qc ha hn hc:={X4.o.r with bu:=U3.o,mp:=X4.o.r.mp,num:=X4.o.r.num}
   exact⟨(((Bx.set X4.o.bx 2 _).set 3 _).set 4 _).set 5 _,hr.ext (Ex.one (gS W3 P _ _ _ _)) (fun b hb=>by rw[hb];exact X4.o.sub _ X4.o.aP) (fun e=>NE.o.1 e.symm) (fun e=>NE.o.2.1 e.symm),X4.o.aP,X4.o.ag,X4.o.am,X4.o.sub⟩)
  have EF:=aa (show Ex A w (nX W3 P (.int .i64 b.num) (.slice ka kn kc) (.slice la ln lc) (.bool b.be)) from(Ex.below (D0.o.trans (D3.o.mono D0.o.size))).trans ((Ex.one (gS W3 P _ _ _ _)).mono (fun b _ hb=>by rw[hb];exact X4.o.aP)));have MF:=aa ((HMW.o.later D3.o).dY (Ex.one (gS W3 P (.int .i64 b.num) (.slice ka kn kc) (.slice la ln lc) (.bool b.be))) XF.o.bx fm);exact bodyPost_ret (v:=.nilIface) (by simp[results,Tryz.results23,go_sem]) rfl ⟨rfl,aa ⟨MF.o,⟨g,ka,kn,kc,la,ln,lc,m,_,_,_,_,_,_,XF.o⟩,EF.o⟩⟩
theorem xe (A S:Nat→Prop) (P n:Nat) (ae:List (List B8)) (b:Bu) (p:Pf_) (w:World) (hm:Mut S w) (hp:PrW A S w P n ae b p) (hb:Mx.aL b n=0) (at_:Int) (d:B8) (h0:Hid (at_<0∨(n:Int)≤at_)) :
 Calls Tryz.prog 23 #[.pointer (some ⟨P,0,none⟩),.int .i64 at_,.agg #[.int .u8 d.z0,.int .u8 d.z1,.int .u8 d.z2,.int .u8 d.z3,.int .u8 d.z4,.int .u8 d.z5,.int .u8 d.z6,.int .u8 d.z7]] w fun e w'=>e=.returned (.iface 23 (.int .i64 1))∧Hid (Below w.heap.size w w'):=by
 obtain⟨g,oa,on,oc,sa,sn,sc,m,qa,qn,qc,ha,hn,hc,X⟩:=hp;obtain⟨W0,hW0⟩:∃ W0:World,Hid (W0=w.alloc (.cells #[.int .u8 d.z0,.int .u8 d.z1,.int .u8 d.z2,.int .u8 d.z3,.int .u8 d.z4,.int .u8 d.z5,.int .u8 d.z6,.int .u8 d.z7] 25)):=⟨_,rfl⟩
 have B0:=bxA hW0;have D0:=beA hW0;have hwW:w.heap.size<W0.heap.size:=B0.o.lt;have HX:=aa (X.later D0.o);have HMW:=aa (hm.later D0.o);have NE:=aa X.ne;have HBM:=aa hb;have hPW:P<W0.heap.size:=Bx.lt HX.o.bx;clear X hm hb;go_enter Tryz.func23,Tryz.ntmps23;go_upto_region 1 with fail
 rw[←hW0.o];obtain⟨x0,x1,x2,x3,x4,x5,x6,x7,x8,x9,x10,x11,x12,x13⟩:=HX.o.bx.cells;obtain⟨u0,u1,u2,u3,u4,u5,u6,u7⟩:=Bx.bC B0.o;clear x0 x6 x7 x8 x9 x10 x11 x12 x13;have UB:=aa (show Buo S W0.drew oa on oc sa sn sc b.op b.se from HX.o.r.bu.ext (Ex.below (Below.refl _ _).drew));have UA:=aa (show Buo (fun b=>S b∨b=W0.heap.size) (W0.alloc (.cells #[.int .i64 0,.slice none 0 0,.slice none 0 0,.bool false] 90)).drew oa on oc sa sn sc b.op b.se from(HX.o.r.bu.wd ((Wd.refl S W0).add (FG _))).ext (Ex.below (af _ _).drew));have hl0:P<W0.heap.size:=(by assumption)
 have hl1:w.heap.size<W0.heap.size:=(by assumption)
 have hf0:¬W0.heap.size=P:=by omega
 have hf1:¬W0.heap.size=w.heap.size:=by omega
 have DA:=aa (show Below W0.heap.size W0 (W0.alloc (.cells #[.int .i64 0,.slice none 0 0,.slice none 0 0,.bool false] 90)).drew from(af _ _).drew);have DB:=aa (show Below W0.heap.size W0 W0.drew from(Below.refl _ _).drew);have XA:=aa (show Bx (W0.alloc (.cells #[.int .i64 0,.slice none 0 0,.slice none 0 0,.bool false] 90)).drew W0.heap.size #[.int .i64 0,.slice none 0 0,.slice none 0 0,.bool false] 90 from Bx.di W0 _ _);have hSx:¬S W0.heap.size:=fun hs=>by have:=HMW.o.lt _ hs;omega
 have MA:=aa (show Mut (fun b=>S b∨b=W0.heap.size) (W0.alloc (.cells #[.int .i64 0,.slice none 0 0,.slice none 0 0,.bool false] 90)).drew from(HMW.o.later DA.o).add XA.o (dA _ rfl));have MB:=aa (HMW.o.later DB.o);have WA:=aa (show Wd S (fun b=>S b∨b=W0.heap.size) W0 from(Wd.refl S W0).add (FG _));go_region_held3 (fun w'=>w'.cell? ⟨P,1,none⟩=some (.int .i64 (n:Int))∧w'.cell? ⟨P,2,none⟩=some (.int .i64 b.num)∧w'.cell? ⟨P,3,none⟩=some (.slice oa on oc)∧w'.cell? ⟨P,4,none⟩=some (.slice sa sn sc)∧w'.cell? ⟨P,5,none⟩=some (.bool b.be)∧w'.cell? ⟨w.heap.size,0,none⟩=some (.int .u8 d.z0)∧w'.cell? ⟨w.heap.size,1,none⟩=some (.int .u8 d.z1)∧w'.cell? ⟨w.heap.size,2,none⟩=some (.int .u8 d.z2)∧w'.cell? ⟨w.heap.size,3,none⟩=some (.int .u8 d.z3)∧w'.cell? ⟨w.heap.size,4,none⟩=some (.int .u8 d.z4)∧w'.cell? ⟨w.heap.size,5,none⟩=some (.int .u8 d.z5)∧w'.cell? ⟨w.heap.size,6,none⟩=some (.int .u8 d.z6)∧w'.cell? ⟨w.heap.size,7,none⟩=some (.int .u8 d.z7))
  (first
    | with_reducible exact ⟨x1, x2, x3, x4, x5, u0, u1, u2, u3, u4, u5, u6, u7⟩
    |(simp only[an];with_reducible exact⟨x1,x2,x3,x4,x5,u0,u1,u2,u3,u4,u5,u6,u7⟩)
    | with_reducible exact ⟨yx1, yx2, yx3, yx4, yx5, yu0, yu1, yu2, yu3, yu4, yu5, yu6, yu7⟩
    |(simp only[an,aq hl0,aq hl1];with_reducible exact⟨x1,x2,x3,x4,x5,u0,u1,u2,u3,u4,u5,u6,u7⟩)
    |(simp only[aq hy0,aq hy1];with_reducible exact⟨yx1,yx2,yx3,yx4,yx5,yu0,yu1,yu2,yu3,yu4,yu5,yu6,yu7⟩)
    |(simp only[aw hf0,aw hf1];with_reducible exact⟨yx1,yx2,yx3,yx4,yx5,yu0,yu1,yu2,yu3,yu4,yu5,yu6,yu7⟩))
  (first
    |(go_at_call 39;(with_reducible refine(rB S b oa on oc sa sn sc n ⟨at_,d⟩ W0.drew MB.o UB.o HBM.o h0.o).mono ?_);rintro e w2 ⟨ka,kn,kc,la,ln,lc,rfl,E2⟩;have D2:=aa (show Below W0.heap.size W0 w2 from DB.o.trans (E2.o.mono DB.o.size));have yx1:=(D2.o.cell (p:=⟨P,1,none⟩) hl0).trans x1;have yx2:=(D2.o.cell (p:=⟨P,2,none⟩) hl0).trans x2;have yx3:=(D2.o.cell (p:=⟨P,3,none⟩) hl0).trans x3;have yx4:=(D2.o.cell (p:=⟨P,4,none⟩) hl0).trans x4;have yx5:=(D2.o.cell (p:=⟨P,5,none⟩) hl0).trans x5;have yu0:=(D2.o.cell (p:=⟨w.heap.size,0,none⟩) hl1).trans u0;have yu1:=(D2.o.cell (p:=⟨w.heap.size,1,none⟩) hl1).trans u1;have yu2:=(D2.o.cell (p:=⟨w.heap.size,2,none⟩) hl1).trans u2;have yu3:=(D2.o.cell (p:=⟨w.heap.size,3,none⟩) hl1).trans u3;have yu4:=(D2.o.cell (p:=⟨w.heap.size,4,none⟩) hl1).trans u4;have yu5:=(D2.o.cell (p:=⟨w.heap.size,5,none⟩) hl1).trans u5;have yu6:=(D2.o.cell (p:=⟨w.heap.size,6,none⟩) hl1).trans u6;have yu7:=(D2.o.cell (p:=⟨w.heap.size,7,none⟩) hl1).trans u7;have hy0:P<w2.heap.size:=Fz hl0 D2.o.size;have hy1:w.heap.size<w2.heap.size:=Fz hl1 D2.o.size)
    |(go_at_call 39;(with_reducible refine(rB (fun b=>S b∨b=W0.heap.size) b oa on oc sa sn sc n ⟨at_,d⟩ (W0.alloc (.cells #[.int .i64 0,.slice none 0 0,.slice none 0 0,.bool false] 90)).drew MA.o UA.o HBM.o h0.o).mono ?_);rintro e w2 ⟨ka,kn,kc,la,ln,lc,rfl,E2⟩;have D2:=aa (show Below W0.heap.size W0 w2 from DA.o.trans (E2.o.mono DA.o.size));have yx1:=(D2.o.cell (p:=⟨P,1,none⟩) hl0).trans x1;have yx2:=(D2.o.cell (p:=⟨P,2,none⟩) hl0).trans x2;have yx3:=(D2.o.cell (p:=⟨P,3,none⟩) hl0).trans x3;have yx4:=(D2.o.cell (p:=⟨P,4,none⟩) hl0).trans x4;have yx5:=(D2.o.cell (p:=⟨P,5,none⟩) hl0).trans x5;have yu0:=(D2.o.cell (p:=⟨w.heap.size,0,none⟩) hl1).trans u0;have yu1:=(D2.o.cell (p:=⟨w.heap.size,1,none⟩) hl1).trans u1;have yu2:=(D2.o.cell (p:=⟨w.heap.size,2,none⟩) hl1).trans u2;have yu3:=(D2.o.cell (p:=⟨w.heap.size,3,none⟩) hl1).trans u3;have yu4:=(D2.o.cell (p:=⟨w.heap.size,4,none⟩) hl1).trans u4;have yu5:=(D2.o.cell (p:=⟨w.heap.size,5,none⟩) hl1).trans u5;have yu6:=(D2.o.cell (p:=⟨w.heap.size,6,none⟩) hl1).trans u6;have yu7:=(D2.o.cell (p:=⟨w.heap.size,7,none⟩) hl1).trans u7;have hy0:P<w2.heap.size:=Fz hl0 D2.o.size;have hy1:w.heap.size<w2.heap.size:=Fz hl1 D2.o.size;have X2:=aa (XA.o.later E2.o XA.o.lt);have zc0:w2.cell? ⟨W0.heap.size,0,none⟩=some (.int .i64 0):=X2.o.cell 0;have zc1:w2.cell? ⟨W0.heap.size,1,none⟩=some (.slice none 0 0):=X2.o.cell 1;have zc2:w2.cell? ⟨W0.heap.size,2,none⟩=some (.slice none 0 0):=X2.o.cell 2;have zc3:w2.cell? ⟨W0.heap.size,3,none⟩=some (.bool false):=X2.o.cell 3;have zz:=X2.o.frozen))
 all_goals
  first
   |(obtain⟨W3,hW3⟩:∃ W3:World,Hid (W3=w2.alloc (.cells #[.int .i64 0,.slice ka kn kc,.slice la ln lc,.bool false] 90)):=⟨_,rfl⟩
     obtain⟨gx,hgx⟩:∃ gx:Nat,Hid (gx=w2.heap.size):=⟨_,rfl⟩
     have X3:=aa (show Bx W3 gx #[.int .i64 0,.slice ka kn kc,.slice la ln lc,.bool false] 90 by rw[hW3.o,hgx.o];exact Bx.new w2 _ _);have F3:=beA hW3;have D3:=aa (show Below W0.heap.size W0 W3 from D2.o.trans (F3.o.mono D2.o.size));have hgw:W0.heap.size≤gx:=by rw[hgx.o];exact D2.o.size
     rw[←hW3.o,←hgx.o])
   |(obtain⟨W3,hW3⟩:∃ W3:World,Hid (W3=((((w2.setCell ⟨W0.heap.size,0,none⟩ (.int .i64 0)).setCell ⟨W0.heap.size,1,none⟩ (.slice ka kn kc)).setCell ⟨W0.heap.size,2,none⟩ (.slice la ln lc)).setCell ⟨W0.heap.size,3,none⟩ (.bool false))):=⟨_,rfl⟩
     obtain⟨gx,hgx⟩:∃ gx:Nat,Hid (gx=W0.heap.size):=⟨_,rfl⟩
     have U3:=aa (show w2.grownBy W3 (some W0.heap.size) by rw[hW3.o];exact al (al (al (al (ar _ _) _ _) _ _) _ _) _ _);have X3:=aa (show Bx W3 gx #[.int .i64 0,.slice ka kn kc,.slice la ln lc,.bool false] 90 by rw[hW3.o,hgx.o];exact(((X2.o.set 0 _).set 1 _).set 2 _).set 3 _);have D3:=aa (show Below W0.heap.size W0 W3 from aT D2.o U3.o (FG _));have Z3:=aa (show Ex (fun b=>b=W0.heap.size) w2 W3 from Ex.one U3.o);have hgw:W0.heap.size≤gx:=by rw[hgx.o];exact FG _
     rw[←hW3.o,←hgx.o])
  clear x1 x2 x3 x4 x5 u0 u1 u2 u3 u4 u5 u6 u7 yx1 yx2 yx3 yx4 yx5 yu0 yu1 yu2 yu3 yu4 yu5 yu6 yu7;try clear zc0 zc1 zc2 zc3 zz
  obtain⟨t0,t1,t2,t3⟩:=Bx.four X3.o;go_wp2_with fail;exact bodyPost_ret (v:=.iface 23 (.int .i64 1)) (by simp[results,Tryz.results23,go_sem]) rfl ⟨rfl,aa (D0.o.trans (D3.o.mono D0.o.size))⟩
namespace Mx
theorem mM {i:Nat}:∀ {ps:List Pt} {l:List B8},(∀ p∈ps,0≤p.at_)→(∀ p∈ps,p.at_≠(i:Int))→(lay l ps)[i]?=l[i]?
 | [], _, _, _ => rfl
 | q :: ps, l, h0, h => by
  show(lay (dH l q) ps)[i]?=_
  rw[mM (fun p hp=>h0 p (List.mem_cons_of_mem _ hp)) (fun p hp=>h p (List.mem_cons_of_mem _ hp))];unfold dH;have h1:=h q (List.mem_cons_self ..);have h2:=h0 q (List.mem_cons_self ..);rw[List.getElem?_set_ne (by omega)]
theorem uI {n:Int}:∀ {ps:List Pt} {s:Int} {l:List B8},dp n s ps→0≤s→n=(l.length:Int)→∀ p∈ps,(lay l ps)[p.at_.toNat]?=some p.d
 | [], _, _, _, _, _, p, hp => by simp at hp
 | q :: ps, s, l, h, hs, hl, p, hp => by
  have h1:=h.1;have h2:=h.2.1;show(lay (dH l q) ps)[p.at_.toNat]?=_
  rcases List.mem_cons.1 hp with rfl|hp
  ·rw[mM (fun r hr=>by have:=dq h.2.2 r hr;omega) (fun r hr=>by have:=dq h.2.2 r hr;omega)]
   unfold dH;rw[List.getElem?_set_self (by omega)]
  ·exact uI h.2.2 (by omega) (by unfold dH;rw[List.length_set];exact hl) p hp
end Mx
theorem zy (A S:Nat→Prop) (P n:Nat) (ae:List (List B8)) (b:Bu) (p:Pf_) (w:World) (hp:PrW A S w P n ae b p) (bl:List B8) (hbl:ae[p.ao]?=some bl) (hln:bl.length=n) (hb:Mx.aL b n=0) (at_:Int) (x:B8) (hx:(0≤at_∧at_<(n:Int)∧(Mx.lay bl b.op)[at_.toNat]?=some x)∨(¬(0≤at_∧at_<(n:Int))∧x=zB)) (E:Value) (hE:E=if 0≤at_∧at_<(n:Int) then .nilIface else .iface 23 (.int .i64 1)) :
 Calls Tryz.prog 24 #[.pointer (some ⟨P,0,none⟩),.int .i64 at_] w fun e w'=>e=.returned (.tuple #[.agg #[.int .u8 x.z0,.int .u8 x.z1,.int .u8 x.z2,.int .u8 x.z3,.int .u8 x.z4,.int .u8 x.z5,.int .u8 x.z6,.int .u8 x.z7],E])∧Hid (Below w.heap.size w w'):=by
 obtain⟨g,oa,on,oc,sa,sn,sc,m,qa,qn,qc,ha,hn,hc,X⟩:=hp;obtain⟨W0,hW0⟩:∃ W0:World,Hid (W0=w.alloc (.cells #[.int .u8 0,.int .u8 0,.int .u8 0,.int .u8 0,.int .u8 0,.int .u8 0,.int .u8 0,.int .u8 0] 25)):=⟨_,rfl⟩
 have B0:=bxA hW0;have D0:=beA hW0;have HX:=aa (X.later D0.o);have HR:=aa (show Mx.bB n b.op=true from by
  have:=(Mx.bX (Mx.bN hb).2.2).2.1;exact this)
 have hon:b.op.length=on:=X.r.bu.op.1.1;have hon3:on≤1000:=by have:=(Mx.qx hb).1;omega
 have HON:=aa hon;have HBL:=aa hbl;have HLN:=aa hln;have HXX:=aa hx;have HEE:=aa hE;clear X hb hon hbl hln hx hE;obtain⟨x0,x1,x2,x3,x4,x5,x6,x7,x8,x9,x10,x11,x12,x13⟩:=HX.o.bx.cells;clear x1 x2 x4 x5 x6 x7 x8 x9 x10 x11 x12 x13;go_enter Tryz.func24,Tryz.ntmps24;go_upto_region 1 with fail
 rw[←hW0.o];go_wp2_with fail;clear x0 x3;go_loopw [14] (fun t wr=>∃ k:Nat,t=.int .i64 (k:Int)∧k≤on∧Hid (Below W0.heap.size W0 wr)∧Hid (∀ j q,j<k→b.op[j]?=some q→q.at_≠at_)) (fun t _=>on-(intOf t).toNat)
 case atStart=>exact⟨0,rfl,Nat.zero_le _,Below.refl _ _,fun j q hj=>absurd hj (by omega)⟩
 case round =>
  obtain⟨k,rfl,hk,hB,hN⟩:=hrel;by_cases hlt:k<on
  ·have hlti:(k:Int)<on:=by omega
   obtain⟨bb,off,pt,hba,hbw,hpt,c0,c1,c2,c3,c4,c5,c6,c7,c8⟩:=(HX.o.r.bu.op.1.later hB.o).at_ k hlt;have HOA:=aa hba;subst hba;have HP:=aa hpt;clear hpt;obtain⟨W1,hW1⟩:∃ W1:World,Hid (W1=wr.alloc (.cells #[.int .i64 pt.at_,.int .u8 pt.d.z0,.int .u8 pt.d.z1,.int .u8 pt.d.z2,.int .u8 pt.d.z3,.int .u8 pt.d.z4,.int .u8 pt.d.z5,.int .u8 pt.d.z6,.int .u8 pt.d.z7] 111)):=⟨_,rfl⟩
   have X1:=bxA hW1;have B1:=aa (show Below W0.heap.size W0 W1 by rw[hW1.o];exact hB.o.alloc hB.o.size _);go_upto_region 4 with fail
   rw[←hW1.o];clear c0 c1 c2 c3 c4 c5 c6 c7 c8;have y0:W1.cell? ⟨wr.heap.size,0,none⟩=some (.int .i64 pt.at_):=X1.o.cell 0;have y1:W1.cell? ⟨wr.heap.size,1,none⟩=some (.int .u8 pt.d.z0):=X1.o.cell 1;have y2:W1.cell? ⟨wr.heap.size,2,none⟩=some (.int .u8 pt.d.z1):=X1.o.cell 2;have y3:W1.cell? ⟨wr.heap.size,3,none⟩=some (.int .u8 pt.d.z2):=X1.o.cell 3;have y4:W1.cell? ⟨wr.heap.size,4,none⟩=some (.int .u8 pt.d.z3):=X1.o.cell 4;have y5:W1.cell? ⟨wr.heap.size,5,none⟩=some (.int .u8 pt.d.z4):=X1.o.cell 5;have y6:W1.cell? ⟨wr.heap.size,6,none⟩=some (.int .u8 pt.d.z5):=X1.o.cell 6;have y7:W1.cell? ⟨wr.heap.size,7,none⟩=some (.int .u8 pt.d.z6):=X1.o.cell 7;have y8:W1.cell? ⟨wr.heap.size,8,none⟩=some (.int .u8 pt.d.z7):=X1.o.cell 8;by_cases he:pt.at_=at_
   ·have hd:(pt.at_==at_)=true:=by simpa using he
    have R1:=aa (B0.o.later B1.o B0.o.lt);obtain⟨r0,r1,r2,r3,r4,r5,r6,r7⟩:=Bx.bC R1.o;have rz:=R1.o.frozen;have hne:¬wr.heap.size=w.heap.size:=by have h1:=hB.o.size;have h2:=B0.o.lt;omega
    have hne2:¬w.heap.size=wr.heap.size:=by omega
    have HE2:=aa he;clear he;obtain⟨W6,hW6⟩:∃ W6:World,Hid (W6=aS W1 w.heap.size 0 pt.d):=⟨_,rfl⟩
    have XF:=aa (show Bx W6 w.heap.size #[.int .u8 pt.d.z0,.int .u8 pt.d.z1,.int .u8 pt.d.z2,.int .u8 pt.d.z3,.int .u8 pt.d.z4,.int .u8 pt.d.z5,.int .u8 pt.d.z6,.int .u8 pt.d.z7] 25 by rw[hW6.o];exact ef R1.o pt.d);have BF:=aa (show Below w.heap.size w W6 by rw[hW6.o];exact bQ (D0.o.trans (B1.o.mono D0.o.size)) (FG _) _ _);unfold aS at hW6;simp only[Nat.zero_add] at hW6;go_wp2_with fail;rw[←hW6.o];obtain⟨t0,t1,t2,t3,t4,t5,t6,t7⟩:=Bx.bC XF.o;have hin:=Mx.dq (Mx.dN HR.o) pt (FN HP.o);have hx2:=Mx.uI (l:=bl) (Mx.dN HR.o) (Int.le_refl 0) (by rw[HLN.o]) pt (FN HP.o);have hEv:E=.nilIface:=by rw[HEE.o,if_pos (by rw[←HE2.o];exact hin)]
    have hxd:x=pt.d:=by
     rcases HXX.o with ⟨h1,h2,h3⟩|⟨h1,_⟩
     ·rw[←HE2.o,hx2] at h3
      exact(FC h3).symm
     ·exact absurd (by rw[←HE2.o];exact hin) h1
    exact bodyPost_ret (v:=.tuple #[.agg #[.int .u8 pt.d.z0,.int .u8 pt.d.z1,.int .u8 pt.d.z2,.int .u8 pt.d.z3,.int .u8 pt.d.z4,.int .u8 pt.d.z5,.int .u8 pt.d.z6,.int .u8 pt.d.z7],.nilIface]) (by simp[results,Tryz.results24,go_sem,t0,t1,t2,t3,t4,t5,t6,t7]) rfl ⟨by rw[hEv,hxd],BF⟩
   ·have hd:(pt.at_==at_)=false:=by simpa using he
    have HE2:=aa he;clear he;go_wp2_with fail;go_roundw
    case rel=>exact⟨k+1,by go_num,by omega,B1,fun j q hj hq=>by
     by_cases hjk:j=k
     ·subst hjk
      rw[HP.o] at hq;cases hq
      exact HE2.o
     ·exact hN.o j q (by omega) hq⟩
    case measure=>simp[intOf];omega
  ·obtain rfl:k=on:=by omega
   have XR:=aa (HX.o.later hB.o);obtain⟨x0,x1,x2,x3,x4,x5,x6,x7,x8,x9,x10,x11,x12,x13⟩:=XR.o.bx.cells;clear x1 x2 x3 x4 x5 x6 x7 x8 x9 x10 x11 x12 x13;obtain⟨bl',hbl',ND⟩:=XR.o.r.nd;have HD:=aa ND;have hbe:bl'=bl:=by rw[HBL.o] at hbl';exact(FC hbl').symm
   subst hbe;have HNo:=aa (show ∀ q∈b.op,q.at_≠at_ from fun q hq=>by
    obtain⟨j,hj⟩:=List.getElem?_of_mem hq;exact hN.o j q (by rw[←HON.o];exact(FE.1 hj).1) hj)
   have R1:=aa (B0.o.later hB.o B0.o.lt);clear ND hbl' hN;go_wp2_with fail;clear x0;by_cases hin:0≤at_∧at_<(n:Int)
   ·obtain⟨i,hi⟩:∃ i:Nat,at_=(i:Int):=⟨at_.toNat,by omega⟩
    subst hi;have hxb:bl'[i]?=some x:=by
     rcases HXX.o with ⟨h1,h2,h3⟩|⟨h1,_⟩
     ·rw[Int.toNat_natCast,Mx.mM (fun q hq=>(Mx.dq (Mx.dN HR.o) q hq).1) HNo.o] at h3
      exact h3
     ·exact absurd hin h1
    have hEv:E=.nilIface:=by rw[HEE.o,if_pos hin]
    have HEV:=aa hEv;clear hin hEv;refine(C9 S g n bl' _ _ wr HD.o i x hxb).mono ?_;rintro e w2 ⟨rfl,E2⟩;have R2:=aa (R1.o.later E2.o R1.o.lt);obtain⟨r0,r1,r2,r3,r4,r5,r6,r7⟩:=Bx.bC R2.o;have rz:=R2.o.frozen;obtain⟨W6,hW6⟩:∃ W6:World,Hid (W6=aS w2 w.heap.size 0 x):=⟨_,rfl⟩
    have XF:=aa (show Bx W6 w.heap.size #[.int .u8 x.z0,.int .u8 x.z1,.int .u8 x.z2,.int .u8 x.z3,.int .u8 x.z4,.int .u8 x.z5,.int .u8 x.z6,.int .u8 x.z7] 25 by rw[hW6.o];exact ef R2.o x);have BF:=aa (show Below w.heap.size w W6 by rw[hW6.o];exact bQ (D0.o.trans ((hB.o.trans (E2.o.mono hB.o.size)).mono D0.o.size)) (FG _) _ _);unfold aS at hW6;simp only[Nat.zero_add] at hW6;clear hxb;go_wp2_with fail;rw[←hW6.o];obtain⟨t0,t1,t2,t3,t4,t5,t6,t7⟩:=Bx.bC XF.o;exact bodyPost_ret (v:=.tuple #[.agg #[.int .u8 x.z0,.int .u8 x.z1,.int .u8 x.z2,.int .u8 x.z3,.int .u8 x.z4,.int .u8 x.z5,.int .u8 x.z6,.int .u8 x.z7],.nilIface]) (by simp[results,Tryz.results24,go_sem,t0,t1,t2,t3,t4,t5,t6,t7]) rfl ⟨by rw[HEV.o],BF⟩
   ·have hxz:x=zB:=by
     rcases HXX.o with ⟨h1,h2,h3⟩|⟨_,h2⟩
     ·exact absurd ⟨h1,h2⟩ hin
     ·exact h2
    have hEv:E=.iface 23 (.int .i64 1):=by rw[HEE.o,if_neg hin]
    have HEV:=aa hEv;subst hxz;clear hEv;refine(Bi S g n bl' _ _ wr HD.o at_ (by omega)).mono ?_;rintro e w2 ⟨rfl,E2⟩;have HIN:=aa hin;clear hin;have R2:=aa (R1.o.later E2.o R1.o.lt);obtain⟨r0,r1,r2,r3,r4,r5,r6,r7⟩:=Bx.bC R2.o;have rz:=R2.o.frozen;obtain⟨W6,hW6⟩:∃ W6:World,Hid (W6=aS w2 w.heap.size 0 zB):=⟨_,rfl⟩
    have XF:=aa (show Bx W6 w.heap.size #[.int .u8 zB.z0,.int .u8 zB.z1,.int .u8 zB.z2,.int .u8 zB.z3,.int .u8 zB.z4,.int .u8 zB.z5,.int .u8 zB.z6,.int .u8 zB.z7] 25 by rw[hW6.o];exact ef R2.o zB);have BF:=aa (show Below w.heap.size w W6 by rw[hW6.o];exact bQ (D0.o.trans ((hB.o.trans (E2.o.mono hB.o.size)).mono D0.o.size)) (FG _) _ _);unfold aS at hW6;simp only[Nat.zero_add] at hW6;go_wp2_with fail;have hW7:Hid (W6=_):=hW6;unfold zB at hW7;simp only at hW7;rw[←hW7.o];obtain⟨t0,t1,t2,t3,t4,t5,t6,t7⟩:=Bx.bC XF.o;exact bodyPost_ret (v:=.tuple #[.agg #[.int .u8 zB.z0,.int .u8 zB.z1,.int .u8 zB.z2,.int .u8 zB.z3,.int .u8 zB.z4,.int .u8 zB.z5,.int .u8 zB.z6,.int .u8 zB.z7],.iface 23 (.int .i64 1)]) (by simp[results,Tryz.results24,go_sem,t0,t1,t2,t3,t4,t5,t6,t7]) rfl ⟨by rw[HEV.o],BF⟩
end Go.Proofs.YtbicgjafjjihdaaGreat
