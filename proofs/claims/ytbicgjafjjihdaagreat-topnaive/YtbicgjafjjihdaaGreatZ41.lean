/- Part. -/
import Derived.Test.YtbicgjafjjihdaaGreatZ39
import Derived.Test.YtbicgjafjjihdaaGreatZ40
set_option maxHeartbeats 16000000
set_option maxRecDepth 100000
namespace Go.Proofs.YtbicgjafjjihdaaGreat
section
open Go.RowKit Go.ChangeMaps
theorem ay.ofRow {w:World} {a:Option Addr} {n:Nat} {l:List Int} (hl:l.length=n) (h:cj w a n 1 (l.map (Value.int .i64))):ay w a n l:=by
 refine⟨hl,h.2.1,fun hn=>?_⟩;obtain⟨b,off,ha,hlt,hc⟩:=h.2.2 hn;refine⟨b,off,ha,hlt,fun i hi=>hc i _ ?_⟩;rw[List.getElem?_map,Fu,Ft (by omega)];rfl
theorem wI (B S:Nat→Prop) (O n:Nat) (ae:List (List B8)) (o:Of_) (w:World) (hm:Mut S w) (ho:OtW B S w O n ae o) (a1:Option Addr) (n1 c1:Nat) (a2:Option Addr) (nb c2:Nat) (ak:List Int) (hi:ay w a1 n1 ak) (hg4:(en o).length≤400) (hn4:n1≤400) (hpos:0<(en o).length+n1) (bs:List Int)  :
 Calls Tryz.prog 119 #[.pointer (some ⟨O,0,none⟩),.agg #[.int .i64 0,.slice a1 n1 c1,.slice a2 nb c2]] w fun e w'=>e=.returned .nilIface∧Hid (OtD B S w w' O n ae {o with got:=o.got++[⟨0,ak,nb,bs⟩]}):=by
 obtain⟨W0,hW0⟩:∃ W0:World,Hid (W0=w.alloc (.cells #[.int .i64 0,.slice a1 n1 c1,.slice a2 nb c2] 157)):=⟨_,rfl⟩
 have B0:=bxA hW0;have D0:=beA hW0;have HM:=aa (hm.later D0.o);have HI:=aa (hi.later D0.o);have HO:=aa (ho.later D0.o);obtain⟨g,na,nn,nc,ha,hn,hc,X⟩:=HO.o;have HX:=aa X;have hnl:(en o).length=nn:=X.r.nu.1.1;have HNL:=aa hnl;rw[hnl] at hg4 hpos;clear hm hi ho X hnl;obtain⟨W1,hW1⟩:∃ W1:World,Hid (W1=(W0.alloc (.cells #[.slice na nn nc,.slice a1 n1 c1] 46)).drew):=⟨_,rfl⟩
 have D1:=aa (show Below W0.heap.size W0 W1 by rw[hW1.o];exact(af _ _).drew);have C1:=aa (show Bx W1 W0.heap.size #[.slice na nn nc,.slice a1 n1 c1] 46 by rw[hW1.o];exact Bx.di W0 _ _);obtain⟨b0,b1,b2⟩:=B0.o.three;obtain⟨x0,x1,x2,x3,x4,x5⟩:=HX.o.bx.cells;clear b0 b2 x0 x1 x2 x3 x5;have hBW:w.heap.size<W0.heap.size:=B0.o.lt;have hOW:O<W0.heap.size:=Bx.lt HX.o.bx;have I1:=aa (HX.o.r.nu.1.later D1.o);have J1:=aa (HI.o.later D1.o);have HC:=aa (pj W0.heap.size na nn nc (en o) a1 n1 c1 ak W1 C1.o I1.o J1.o hpos hg4 hn4);rw[hW1.o] at HC;go_enter Tryz.func119,Tryz.ntmps119;go_upto_region 1 with fail
 rw[←hW0.o];go_region_held3 (fun w'=>w'.cell? ⟨O,4,none⟩=some (.slice na nn nc)∧w'.cell? ⟨w.heap.size,1,none⟩=some (.slice a1 n1 c1))
  (first
    | with_reducible exact ⟨x4, b1⟩
    |(simp only[an];with_reducible exact⟨x4,b1⟩)
    | with_reducible exact ⟨y4, yb1⟩
    |(simp only[an,aq hBW,aq hOW];with_reducible exact⟨x4,b1⟩))
  (first
    |(go_at_call 140;(with_reducible refine HC.o.mono ?_);rintro e w2 ⟨a3,c3,rfl,O2,E2⟩;rw[←hW1.o] at O2 E2;have D2:=aa (show Below W0.heap.size W0 w2 from D1.o.trans (E2.o.mono D1.o.size));have y4:=(D2.o.cell (p:=⟨O,4,none⟩) hOW).trans x4;have yb1:=(D2.o.cell (p:=⟨w.heap.size,1,none⟩) hBW).trans b1))
 all_goals
  clear x4 b1 y4 yb1 HC;have B2:=aa (B0.o.later D2.o B0.o.lt);have X2:=aa (HX.o.later D2.o);have M2:=aa (HM.o.later D2.o);obtain⟨b0,b1,b2⟩:=B2.o.three;obtain⟨x0,x1,x2,x3,x4,x5⟩:=X2.o.bx.cells;have xz:=Bx.frozen X2.o.bx;have I2:=aa (show Ino S w2 a3 (nn+n1) (en o++ak)∧nn+n1≤c3∧(∀ q,a3=some q→W0.heap.size≤q.block) from by
   obtain⟨a',c',hv,hcc,hr,hp⟩:=aB O2.o;have hll:(en o++ak).length=nn+n1:=by rw[Fy,HNL.o,HI.o.1]
   rw[hll] at hv hr hcc;cases hv
   exact⟨⟨ay.ofRow (by rw[hll]) hr,Av.new HM.o D1.o.size hp⟩,hcc,fun q hq=>FM D1.o.size (hp q hq)⟩)
  obtain⟨W3,hW3⟩:∃ W3:World,Hid (W3=w2.setCell ⟨O,4,none⟩ (.slice a3 (nn+n1) c3)):=⟨_,rfl⟩
  have G3:=aa (show w2.grownBy W3 (some O) by rw[hW3.o];exact al (ar _ _) _ _);have Z3:=aa (Ex.one G3.o);have X3:=aa (show Obx W3 O g n (o.sb:Int) (o.want:Int) a3 (nn+n1) c3 ha hn hc by rw[hW3.o];exact Bx.set X2.o.bx 4 _);have M3:=aa (M2.o.dY Z3.o X3.o fW);have hSO:∀ b,b=O→S b:=fun b e=>by rw[e];exact X2.o.sub _ X2.o.aO
  have R3:=aa (show OtR S W3 n ae {o with got:=o.got++[⟨0,ak,nb,bs⟩]} g a3 (nn+n1) c3 ha hn hc from by
   have hr:=X2.o.r.ext Z3.o hSO (fun e=>X2.o.ne e.symm);refine⟨hr.nd,?_,I2.o.2.1,hr.hd,hr.hc,hr.fg⟩;have h1:en {o with got:=o.got++[⟨0,ak,nb,bs⟩]}=en o++ak:=by unfold en;simp
   rw[h1];exact I2.o.1.ext (Z3.o.mono (fun b _ e=>hSO b e)))
  have E3:=aa (show Ex B w W3 from((Ex.below (S:=B) D0.o).chain (Ex.below (S:=B) D2.o) (fun _ _ h=>h)).chain Z3.o (fun b _ e=>by rw[e];exact X2.o.aO));go_wp2_with fail;rw[←hW3.o];exact bodyPost_ret (v:=.nilIface) (by simp[results,Tryz.results119,go_sem]) rfl ⟨rfl,aa ⟨M3.o,⟨g,a3,nn+n1,c3,ha,hn,hc,X3.o,R3.o,X2.o.aO,X2.o.ag,X2.o.sub⟩,E3.o⟩⟩
theorem wH (B S:Nat→Prop) (O n:Nat) (ae:List (List B8)) (o:Of_) (w:World) (hm:Mut S w) (ho:OtW B S w O n ae o) (a1:Option Addr) (n1 c1:Nat) (a2:Option Addr) (nb c2:Nat) (ak:List Int) (hi:ay w a1 n1 ak) (hg4:(en o).length≤400) (hn4:n1≤400) (hpos:0<(en o).length+n1) (bl8:List B8) (hb8:BL w a2 nb bl8) (hbc:nb≤c2) (hnb:nb≤1000) (frm:Int) (to_:Nat) (Xs:List Nat) (qs:List Pk) (hall:en o++ak=frm::(to_:Int)::Xs.map (fun x:Nat=>(x:Int))) (hdec:Mx.fU (Xs.map (fun x:Nat=>(x:Int))) bl8=some qs) (hXs:∀ x∈Xs,x<4096) (ht:o.back<to_) (hn1:1≤n) (hn32:n≤32) (base fin:List B8) (hbase:(frm=0∧base=List.replicate n zB)∨(frm=(o.back:Int)∧frm≠0∧ae[o.back]?=some base)) (hbln:base.length=n) (hh:Mx.bT o.had=0) (hE:Mx.qE n qs=0) (hms:Mx.dI qs base o.had=[]) (hfin:ae[to_]?=some fin) (hfl:Mx.aD base (Mx.aJ qs base o.had)=fin) (hqn:qs.length≤1000) (hto:(to_:Int)≤2147483647) (hsb:(o.sb:Int)≤2147483647) :
 Calls Tryz.prog 119 #[.pointer (some ⟨O,0,none⟩),.agg #[.int .i64 1,.slice a1 n1 c1,.slice a2 nb c2]] w fun e w'=>e=.returned .nilIface∧Hid (OtD B S w w' O n ae {o with back:=to_,had:=Mx.bK o.had qs,got:=[]}):=by
 obtain⟨W0,hW0⟩:∃ W0:World,Hid (W0=w.alloc (.cells #[.int .i64 1,.slice a1 n1 c1,.slice a2 nb c2] 157)):=⟨_,rfl⟩
 have B0:=bxA hW0;have D0:=beA hW0;have HM:=aa (hm.later D0.o);have HI:=aa (hi.later D0.o);have HO:=aa (ho.later D0.o);obtain⟨g,na,nn,nc,ha,hn,hc,X⟩:=HO.o;have HX:=aa X;have hnl:(en o).length=nn:=X.r.nu.1.1;have HNL:=aa hnl;rw[hnl] at hg4 hpos;have HB8:=aa (hb8.later D0.o);have HALL:=aa hall;have HDEC:=aa hdec;have HXS:=aa hXs;have HBASE:=aa hbase;have HBLN:=aa hbln;have HH:=aa hh;have HE:=aa hE;have HMS:=aa hms;have HFIN:=aa hfin;have HFL:=aa hfl;clear hb8 hall hdec hXs hbase hbln hh hE hms hfin hfl;clear hm hi ho X hnl;obtain⟨W1,hW1⟩:∃ W1:World,Hid (W1=(W0.alloc (.cells #[.slice na nn nc,.slice a1 n1 c1] 46)).drew):=⟨_,rfl⟩
 have D1:=aa (show Below W0.heap.size W0 W1 by rw[hW1.o];exact(af _ _).drew);have C1:=aa (show Bx W1 W0.heap.size #[.slice na nn nc,.slice a1 n1 c1] 46 by rw[hW1.o];exact Bx.di W0 _ _);obtain⟨b0,b1,b2⟩:=B0.o.three;obtain⟨x0,x1,x2,x3,x4,x5⟩:=HX.o.bx.cells;clear b0 b2 x0 x1 x2 x3 x5;have hBW:w.heap.size<W0.heap.size:=B0.o.lt;have hOW:O<W0.heap.size:=Bx.lt HX.o.bx;have I1:=aa (HX.o.r.nu.1.later D1.o);have J1:=aa (HI.o.later D1.o);have HC:=aa (pj W0.heap.size na nn nc (en o) a1 n1 c1 ak W1 C1.o I1.o J1.o hpos hg4 hn4);rw[hW1.o] at HC;go_enter Tryz.func119,Tryz.ntmps119;go_upto_region 1 with fail
 rw[←hW0.o];go_region_held3 (fun w'=>w'.cell? ⟨O,4,none⟩=some (.slice na nn nc)∧w'.cell? ⟨w.heap.size,1,none⟩=some (.slice a1 n1 c1))
  (first
    | with_reducible exact ⟨x4, b1⟩
    |(simp only[an];with_reducible exact⟨x4,b1⟩)
    | with_reducible exact ⟨y4, yb1⟩
    |(simp only[an,aq hBW,aq hOW];with_reducible exact⟨x4,b1⟩))
  (first
    |(go_at_call 140;(with_reducible refine HC.o.mono ?_);rintro e w2 ⟨a3,c3,rfl,O2,E2⟩;rw[←hW1.o] at O2 E2;have D2:=aa (show Below W0.heap.size W0 w2 from D1.o.trans (E2.o.mono D1.o.size));have y4:=(D2.o.cell (p:=⟨O,4,none⟩) hOW).trans x4;have yb1:=(D2.o.cell (p:=⟨w.heap.size,1,none⟩) hBW).trans b1))
 all_goals
  clear x4 b1 y4 yb1 HC;have B2:=aa (B0.o.later D2.o B0.o.lt);have X2:=aa (HX.o.later D2.o);have M2:=aa (HM.o.later D2.o);obtain⟨b0,b1,b2⟩:=B2.o.three;obtain⟨x0,x1,x2,x3,x4,x5⟩:=X2.o.bx.cells;have xz:=Bx.frozen X2.o.bx;have I2:=aa (show Ino S w2 a3 (nn+n1) (en o++ak)∧nn+n1≤c3∧(∀ q,a3=some q→W0.heap.size≤q.block) from by
   obtain⟨a',c',hv,hcc,hr,hp⟩:=aB O2.o;have hll:(en o++ak).length=nn+n1:=by rw[Fy,HNL.o,HI.o.1]
   rw[hll] at hv hr hcc;cases hv
   exact⟨⟨ay.ofRow (by rw[hll]) hr,Av.new HM.o D1.o.size hp⟩,hcc,fun q hq=>FM D1.o.size (hp q hq)⟩)
  clear xz x0 x1 x2 x3 x4 x5;go_upto_region 5 with fail
  go_wp2_with fail;have HI2:=aa (show ay w2 a3 (nn+n1) (frm::(to_:Int)::Xs.map (fun x:Nat=>(x:Int))) by rw[←HALL.o];exact I2.o.1.1);refine(uk a3 (nn+n1) c3 frm (to_:Int) Xs a2 nb c2 bl8 qs w2 HI2.o I2.o.2.1 (HB8.o.later D2.o) hbc HDEC.o HXS.o (by omega) hnb).mono ?_;rintro e w3 ⟨qa,qn,qc,rfl,Q3,E3⟩;have HQN:=aa (show QL w3 qa qn qs∧qn=qs.length from by
   obtain⟨a',c',hv,_,hr,_⟩:=aB Q3.o;cases hv
   exact⟨⟨rfl,hr⟩,rfl⟩)
  obtain⟨W4,hW4⟩:∃ W4:World,Hid (W4=w3.alloc (.cells #[.int .i64 frm,.int .i64 (to_:Int),.slice qa qn qc] 183)):=⟨_,rfl⟩
  have U4:=bxA hW4;have D4:=beA hW4;have F4:=aa (show Below w2.heap.size w2 W4 from E3.o.trans (D4.o.mono E3.o.size));have X4:=aa (X2.o.later F4.o);have M4:=aa (M2.o.later F4.o);clear b0 b1 b2;go_upto_region 6 with fail
  rw[←hW4.o];go_upto_region 8 with fail
  obtain⟨u0,u1,u2⟩:=U4.o.three;go_wp2_with fail;refine(wC B S O n ae o W4 M4.o ⟨g,na,nn,nc,ha,hn,hc,X4.o⟩ frm to_ qa qn qc qs (HQN.o.1.later D4.o) ht hn1 hn32 base fin HBASE.o HBLN.o HH.o HE.o HMS.o HFIN.o HFL.o (by rw[HQN.o.2];exact hqn) hto hsb).mono ?_;rintro e w5 ⟨rfl,P5⟩;clear u0 u1 u2;obtain⟨g5,na5,nn5,nc5,ha5,hn5,hc5,X5⟩:=P5.o.ot;have HX5:=aa X5;obtain⟨x0,x1,x2,x3,x4,x5⟩:=X5.bx.cells;have xz:=Bx.frozen X5.bx;clear X5 x0 x1 x2 x3 x5;obtain⟨W6,hW6⟩:∃ W6:World,Hid (W6=w5.setCell ⟨O,4,none⟩ (.slice none 0 0)):=⟨_,rfl⟩
  have G6:=aa (show w5.grownBy W6 (some O) by rw[hW6.o];exact al (ar _ _) _ _);have Z6:=aa (Ex.one G6.o);have X6:=aa (show Obx W6 O g5 n (o.sb:Int) (o.want:Int) none 0 0 ha5 hn5 hc5 by rw[hW6.o];exact Bx.set HX5.o.bx 4 _);have M6:=aa (P5.o.mu.dY Z6.o X6.o fW);have hSO:∀ b,b=O→S b:=fun b e=>by rw[e];exact HX5.o.sub _ HX5.o.aO
  have R6:=aa (show OtR S W6 n ae {o with back:=to_,had:=Mx.bK o.had qs,got:=[]} g5 none 0 0 ha5 hn5 hc5 from by
   have hr:=HX5.o.r.ext Z6.o hSO (fun e=>HX5.o.ne e.symm);exact⟨hr.nd,Ino.nil S W6,FG _,hr.hd,hr.hc,hr.fg⟩)
  have E6:=aa (show Ex B w W6 from((((Ex.below (S:=B) D0.o).chain (Ex.below (S:=B) D2.o) (fun _ _ h=>h)).chain (Ex.below (S:=B) F4.o) (fun _ _ h=>h)).chain P5.o.ext (fun _ _ h=>h)).chain Z6.o (fun b _ e=>by rw[e];exact HX5.o.aO));go_wp2_with fail;rw[←hW6.o];exact bodyPost_ret (v:=.nilIface) (by simp[results,Tryz.results119,go_sem]) rfl ⟨rfl,aa ⟨M6.o,⟨g5,none,0,0,ha5,hn5,hc5,X6.o,R6.o,HX5.o.aO,HX5.o.ag,HX5.o.sub⟩,E6.o⟩⟩
end
section
open Go.RowKit Go.ChangeMaps
theorem Mx.mP {l:List Int} {s s' x x' kd kd':Int} {nm nm':List Int} {nb nb':Nat} {bs bs':List Int} (h:Mx.Msg l s x kd nm nb bs) (h':Mx.Msg l s' x' kd' nm' nb' bs'):s=s'∧x=x'∧kd=kd'∧nm=nm'∧nb=nb'∧bs=bs':=by
 obtain⟨_,h2,h3,h4⟩:=Mx.aE.one h.1 h'.1;simp at h2;exact⟨h2.1,h2.2.1,h2.2.2.1,h2.2.2.2,h3,h4⟩
theorem ze (B S:Nat→Prop) (O n:Nat) (ae:List (List B8)) (o:Of_) (w:World) (hm:Mut S w) (ho:OtW B S w O n ae o) (a:Option Addr) (len cap:Nat) (l:List Int) (hl:Bytes w a len l) (hlen:len≤2000) (hcap:len≤cap) (hsb:(o.sb:Int)≤2147483647) (hwt:(o.want:Int)≤2147483647) (hno:∀ x kd nm nb bs,¬Mx.Msg l (o.sb:Int) x kd nm nb bs) :
 Calls Tryz.prog 87 #[.pointer (some ⟨O,0,none⟩),.slice a len cap] w fun e w'=>∃ v,e=.returned (.tuple #[v,.nilIface])∧Hid (OtD B S w w' O n ae o)∧Hid (cU S w' v none):=by
 have HM:=aa hm;have HO:=aa ho;have HL:=aa hl;obtain⟨g,na,nn,nc,ha,hn,hc,X⟩:=ho;have HX:=aa X;obtain⟨x0,x1,x2,x3,x4,x5⟩:=X.bx.cells;have HNO:=aa hno;clear hno;clear hm hl X x0 x1 x4 x5;have q:∀ (w:World) (a:Option Addr) (n c n' c':Nat),(binOp .eql 77 (.slice a n c) (.slice none n' c')).run Tryz.prog w=.ok (.bool a.isNone) w:=fun w a n c n' c'=>Lib.run_eql_slice_nil w _ _ a n c n' c' Tryz.underlying77
 go_enter Tryz.func87,Tryz.ntmps87;go_wp2_with fail;refine(gy (o.sb:Int) (o.want:Int) a len cap l w HL.o hlen hcap (by omega) hsb (by omega) hwt).mono ?_;clear x2 x3;rintro e w1 ⟨hr,E1⟩;have HE1:=aa E1;clear E1;rcases hr with ⟨kd,nm,nb,bs,_,_,h,_⟩|⟨x,kd,nm,nb,bs,_,h,_⟩|⟨_,rfl⟩
 ·exact absurd h (HNO.o _ _ _ _ _)
 ·exact absurd h (HNO.o _ _ _ _ _)
 obtain⟨W2,hW2⟩:∃ W2:World,Hid (W2=(w1.alloc (.cells #[.int .i64 (o.sb:Int),.int .i64 (o.want:Int)] 100)).alloc (.cells #[.int .i64 0,.slice none 0 0,.slice none 0 0] 157)):=⟨_,rfl⟩
 have D2:=aa (show Below w1.heap.size w1 W2 by rw[hW2.o];exact(af _ _).alloc (by simp) _);have B2:=aa (show Bx W2 w1.heap.size #[.int .i64 (o.sb:Int),.int .i64 (o.want:Int)] 100 by rw[hW2.o];exact(Bx.new w1 _ _).alloc _);have C2:=aa (show Bx W2 (w1.heap.size+1) #[.int .i64 0,.slice none 0 0,.slice none 0 0] 157 by
  rw[hW2.o];have h:=Bx.new (w1.alloc (.cells #[.int .i64 (o.sb:Int),.int .i64 (o.want:Int)] 100)) #[.int .i64 0,.slice none 0 0,.slice none 0 0] 157;rw[World.size_alloc] at h;exact h)
 have F2:=aa (show Below w.heap.size w W2 from HE1.o.trans (D2.o.mono HE1.o.size));go_upto_region 2 with fail
 rw[←hW2.o];go_wp2_with fail;exact bodyPost_ret (v:=.tuple #[.slice none 0 0,.nilIface]) (by simp[results,Tryz.results87,go_sem]) rfl ⟨_,rfl,aa (OtD.same HM.o HO.o F2.o),aa rfl⟩
theorem tQ (B S:Nat→Prop) (O n:Nat) (ae:List (List B8)) (o:Of_) (w:World) (hm:Mut S w) (ho:OtW B S w O n ae o) (a:Option Addr) (len cap:Nat) (l:List Int) (hl:Bytes w a len l) (hlen:len≤2000) (hcap:len≤cap) (hsb:(o.sb:Int)≤2147483647) (hwt:(o.want:Int)≤2147483647) (hf:o.aN=true) (x kd:Int) (nm:List Int) (nb:Nat) (bs:List Int) (hms:Mx.Msg l (o.sb:Int) x kd nm nb bs) :
 Calls Tryz.prog 87 #[.pointer (some ⟨O,0,none⟩),.slice a len cap] w fun e w'=>∃ v,e=.returned (.tuple #[v,.nilIface])∧Hid (OtD B S w w' O n ae o)∧Hid (cU S w' v (some (Mx.bd 4 [(o.sb:Int)] 0 []))):=by
 have HM:=aa hm;have HO:=aa ho;have HL:=aa hl;obtain⟨g,na,nn,nc,ha,hn,hc,X⟩:=ho;have HX:=aa X;obtain⟨x0,x1,x2,x3,x4,x5⟩:=X.bx.cells;have hw7:o.want=2147483647:=of_decide_eq_true (by rw[←X.r.fg];exact hf);have HW7:=aa hw7;have HMS:=aa hms;clear hms hf hw7;clear hm hl X x0 x1 x4 x5;have q:∀ (w:World) (a:Option Addr) (n c n' c':Nat),(binOp .eql 77 (.slice a n c) (.slice none n' c')).run Tryz.prog w=.ok (.bool a.isNone) w:=fun w a n c n' c'=>Lib.run_eql_slice_nil w _ _ a n c n' c' Tryz.underlying77
 go_enter Tryz.func87,Tryz.ntmps87;go_wp2_with fail;refine(gy (o.sb:Int) (o.want:Int) a len cap l w HL.o hlen hcap (by omega) hsb (by omega) hwt).mono ?_;clear x2 x3;rintro e w1 ⟨hr,E1⟩;have HE1:=aa E1;clear E1;obtain⟨vb,rfl,hvb⟩:∃ vb,e=.returned (.tuple #[.agg #[.int .i64 (o.sb:Int),.int .i64 (o.want:Int)],.agg #[.int .i64 0,.slice none 0 0,.slice none 0 0],.bool false,vb,.nilIface])∧Own w1 w.heap.size vb (Mx.bd 0 [(o.sb:Int),(o.want:Int)] 0 []):=by
  rcases hr with ⟨_,_,_,_,_,_,_,h,_⟩|⟨x',kd',nm',nb',bs',vb,h,hnw,he,hvb⟩|⟨h,_⟩
  ·exact absurd HW7.o (by omega)
  ·exact⟨vb,he,hvb⟩
  ·exact absurd HMS.o (h _ _ _ _ _)
 clear hr;obtain⟨ba,bc,hbv,hbc,hbr,hbp⟩:=Own.br hvb;have hbpos:=dM 0 [(o.sb:Int),(o.want:Int)] 0 [];obtain⟨bb,bo,hba,_⟩:=hbr.2.2.2 hbpos;obtain⟨BN,hBN⟩:∃ BN:Nat,Hid (BN=(Mx.bd 0 [(o.sb:Int),(o.want:Int)] 0 []).length):=⟨_,rfl⟩
 subst hba;rw[←hBN.o] at hbv;subst hbv;have HVB:=aa hvb;have HBC:=aa hbc;clear hvb hbc hbr hbp hbpos;obtain⟨W2,hW2⟩:∃ W2:World,Hid (W2=(w1.alloc (.cells #[.int .i64 (o.sb:Int),.int .i64 (o.want:Int)] 100)).alloc (.cells #[.int .i64 0,.slice none 0 0,.slice none 0 0] 157)):=⟨_,rfl⟩
 have D2:=aa (show Below w1.heap.size w1 W2 by rw[hW2.o];exact(af _ _).alloc (by simp) _);have B2:=aa (show Bx W2 w1.heap.size #[.int .i64 (o.sb:Int),.int .i64 (o.want:Int)] 100 by rw[hW2.o];exact(Bx.new w1 _ _).alloc _);have C2:=aa (show Bx W2 (w1.heap.size+1) #[.int .i64 0,.slice none 0 0,.slice none 0 0] 157 by
  rw[hW2.o];have h:=Bx.new (w1.alloc (.cells #[.int .i64 (o.sb:Int),.int .i64 (o.want:Int)] 100)) #[.int .i64 0,.slice none 0 0,.slice none 0 0] 157;rw[World.size_alloc] at h;exact h)
 have F2:=aa (show Below w.heap.size w W2 from HE1.o.trans (D2.o.mono HE1.o.size));go_upto_region 2 with fail
 rw[←hW2.o];have X2:=aa (HX.o.later F2.o);obtain⟨x0,x1,x2,x3,x4,x5⟩:=X2.o.bx.cells;clear x0 x1 x4 x5;go_wp2_with fail;refine(eY O (o.want:Int) W2 x3 true (by rw[HW7.o];rfl)).mono ?_;rintro e wz ⟨rfl,hz⟩;obtain rfl:=hz.symm;clear hz;obtain⟨W5,hW5⟩:∃ W5:World,Hid (W5=W2.alloc (.cells #[.int .i64 (o.sb:Int)] 3)):=⟨_,rfl⟩
 have D5:=beA hW5;have I5:=aa (show ay W5 (some ⟨W2.heap.size,0,none⟩) 1 [(o.sb:Int)] by rw[hW5.o];exact jb W2 [(o.sb:Int)] _ (by simp) _ (by simp));have HM1:=aa (Mx.Bb (k:=4) (x:=(o.sb:Int)) (by omega) ⟨by omega,hsb⟩);go_wp2_with fail;rw[←hW5.o];refine(jc 4 (some ⟨W2.heap.size,0,none⟩) 1 1 [(o.sb:Int)] W5 I5.o HM1.o).mono ?_;rintro e w6 ⟨v,rfl,O6,E6⟩;have F6:=aa (show Below w.heap.size w w6 from F2.o.trans ((D5.o.trans (E6.o.mono D5.o.size)).mono F2.o.size));have F5:=aa (show Below w.heap.size w W5 from F2.o.trans (D5.o.mono F2.o.size));clear x2 x3;go_wp2_with fail;exact bodyPost_ret (v:=.tuple #[v,.nilIface]) (by simp[results,Tryz.results87,go_sem]) rfl ⟨v,rfl,aa (OtD.same HM.o HO.o F6.o),aa (cU.of O6.o (HM.o.later F5.o) (FG _) (dM _ _ _ _) (eQ (fS w) HM1.o))⟩
theorem Bp (B S:Nat→Prop) (O n:Nat) (ae:List (List B8)) (o:Of_) (w:World) (hm:Mut S w) (ho:OtW B S w O n ae o) (a:Option Addr) (len cap:Nat) (l:List Int) (hl:Bytes w a len l) (hlen:len≤2000) (hcap:len≤cap) (hsb:(o.sb:Int)≤2147483647) (hwt:(o.want:Int)≤2147483647) (hf:o.aN=false) (x kd:Int) (nm:List Int) (nb:Nat) (bs:List Int) (hms:Mx.Msg l (o.sb:Int) x kd nm nb bs) (hx:x≠(o.want:Int)) :
 Calls Tryz.prog 87 #[.pointer (some ⟨O,0,none⟩),.slice a len cap] w fun e w'=>∃ v,e=.returned (.tuple #[v,.nilIface])∧Hid (OtD B S w w' O n ae o)∧Hid (cU S w' v (some (Mx.bd 0 [(o.sb:Int),(o.want:Int)] 0 []))):=by
 have HM:=aa hm;have HO:=aa ho;have HL:=aa hl;obtain⟨g,na,nn,nc,ha,hn,hc,X⟩:=ho;have HX:=aa X;obtain⟨x0,x1,x2,x3,x4,x5⟩:=X.bx.cells;have hw7:((o.want:Int)==2147483647)=false:=by
  have h1:=X.r.fg;rw[hf] at h1;have h2:=of_decide_eq_false h1.symm;simp;omega
 have HMS:=aa hms;have HXW:=aa hx;have HMY:=aa (Mx.oO (x:=(o.sb:Int)) (y:=(o.want:Int)) (by omega) hsb (by omega) hwt);clear hms hf hx;clear hm hl X x0 x1 x4 x5;have q:∀ (w:World) (a:Option Addr) (n c n' c':Nat),(binOp .eql 77 (.slice a n c) (.slice none n' c')).run Tryz.prog w=.ok (.bool a.isNone) w:=fun w a n c n' c'=>Lib.run_eql_slice_nil w _ _ a n c n' c' Tryz.underlying77
 go_enter Tryz.func87,Tryz.ntmps87;go_wp2_with fail;refine(gy (o.sb:Int) (o.want:Int) a len cap l w HL.o hlen hcap (by omega) hsb (by omega) hwt).mono ?_;clear x2 x3;rintro e w1 ⟨hr,E1⟩;have HE1:=aa E1;clear E1;obtain⟨vb,rfl,hvb⟩:∃ vb,e=.returned (.tuple #[.agg #[.int .i64 (o.sb:Int),.int .i64 (o.want:Int)],.agg #[.int .i64 0,.slice none 0 0,.slice none 0 0],.bool false,vb,.nilIface])∧Own w1 w.heap.size vb (Mx.bd 0 [(o.sb:Int),(o.want:Int)] 0 []):=by
  rcases hr with ⟨kd',nm',nb',bs',v,vb,h,_⟩|⟨x',kd',nm',nb',bs',vb,h,hnw,he,hvb⟩|⟨h,_⟩
  ·exact absurd (Mx.mP HMS.o h).2.1 HXW.o
  ·exact⟨vb,he,hvb⟩
  ·exact absurd HMS.o (h _ _ _ _ _)
 clear hr;obtain⟨ba,bc,hbv,hbc,hbr,hbp⟩:=Own.br hvb;have hbpos:=dM 0 [(o.sb:Int),(o.want:Int)] 0 [];obtain⟨bb,bo,hba,_⟩:=hbr.2.2.2 hbpos;obtain⟨BN,hBN⟩:∃ BN:Nat,Hid (BN=(Mx.bd 0 [(o.sb:Int),(o.want:Int)] 0 []).length):=⟨_,rfl⟩
 subst hba;rw[←hBN.o] at hbv;subst hbv;have HVB:=aa hvb;have HBC:=aa hbc;clear hvb hbc hbr hbp hbpos;obtain⟨W2,hW2⟩:∃ W2:World,Hid (W2=(w1.alloc (.cells #[.int .i64 (o.sb:Int),.int .i64 (o.want:Int)] 100)).alloc (.cells #[.int .i64 0,.slice none 0 0,.slice none 0 0] 157)):=⟨_,rfl⟩
 have D2:=aa (show Below w1.heap.size w1 W2 by rw[hW2.o];exact(af _ _).alloc (by simp) _);have B2:=aa (show Bx W2 w1.heap.size #[.int .i64 (o.sb:Int),.int .i64 (o.want:Int)] 100 by rw[hW2.o];exact(Bx.new w1 _ _).alloc _);have C2:=aa (show Bx W2 (w1.heap.size+1) #[.int .i64 0,.slice none 0 0,.slice none 0 0] 157 by
  rw[hW2.o];have h:=Bx.new (w1.alloc (.cells #[.int .i64 (o.sb:Int),.int .i64 (o.want:Int)] 100)) #[.int .i64 0,.slice none 0 0,.slice none 0 0] 157;rw[World.size_alloc] at h;exact h)
 have F2:=aa (show Below w.heap.size w W2 from HE1.o.trans (D2.o.mono HE1.o.size));go_upto_region 2 with fail
 rw[←hW2.o];have X2:=aa (HX.o.later F2.o);have M2:=aa (HM.o.later F2.o);obtain⟨x0,x1,x2,x3,x4,x5⟩:=X2.o.bx.cells;have xz:=Bx.frozen X2.o.bx;clear x0 x1 x4 x5;obtain⟨b0,b1⟩:=B2.o.pair;have hbO:¬w1.heap.size=O:=by
  have h1:=Bx.lt HX.o.bx;have h2:=HE1.o.size;omega
 have hbO2:¬O=w1.heap.size:=fun e=>hbO e.symm
 obtain⟨W3,hW3⟩:∃ W3:World,Hid (W3=(W2.setCell ⟨O,2,none⟩ (.int .i64 (o.sb:Int))).setCell ⟨O,3,none⟩ (.int .i64 (o.want:Int))):=⟨_,rfl⟩
 have G3:=aa (show W2.grownBy W3 (some O) by rw[hW3.o];exact al (al (ar _ _) _ _) _ _);have Z3:=aa (Ex.one G3.o);have X3:=aa (show Obx W3 O g n (o.sb:Int) (o.want:Int) na nn nc ha hn hc by rw[hW3.o];exact Bx.set (Bx.set X2.o.bx 2 _) 3 _);have M3:=aa (M2.o.dY Z3.o X3.o fW);have hSO:∀ b,b=O→S b:=fun b e=>by rw[e];exact X2.o.sub _ X2.o.aO
 have R3:=aa (X2.o.r.ext Z3.o hSO (fun e=>X2.o.ne e.symm));have E3:=aa (show Ex B w W3 from(Ex.below (S:=B) F2.o).chain Z3.o (fun b _ e=>by rw[e];exact X2.o.aO));have V3:=aa (show cU S w1 (.slice (some ⟨bb,bo,none⟩) BN bc) (some (Mx.bd 0 [(o.sb:Int),(o.want:Int)] 0 [])) from(cU.of HVB.o HM.o (FG _) (dM _ _ _ _) (eQ (fS w) HMY.o)));have VF:=aa (show cU S W3 (.slice (some ⟨bb,bo,none⟩) BN bc) (some (Mx.bd 0 [(o.sb:Int),(o.want:Int)] 0 [])) from by
  obtain⟨a',c',hv,hb,hc⟩:=V3.o;exact⟨a',c',hv,(hb.ext (Ex.below D2.o)).ext (Z3.o.mono (fun b _ e=>hSO b e)),hc⟩)
 go_wp2_with fail;refine(eY O (o.want:Int) W2 x3 false hw7).mono ?_;rintro e wz ⟨rfl,hz⟩;obtain rfl:=hz.symm;clear hz;go_wp2_with fail;rw[←hW3.o];exact bodyPost_ret (v:=.tuple #[.slice (some ⟨bb,bo,none⟩) BN bc,.nilIface]) (by simp[results,Tryz.results87,go_sem]) rfl ⟨_,rfl,aa ⟨M3.o,⟨g,na,nn,nc,ha,hn,hc,X3.o,R3.o,X2.o.aO,X2.o.ag,X2.o.sub⟩,E3.o⟩,VF⟩
theorem zd (B S:Nat→Prop) (O n:Nat) (ae:List (List B8)) (o:Of_) (w:World) (hm:Mut S w) (ho:OtW B S w O n ae o) (a:Option Addr) (len cap:Nat) (l:List Int) (hl:Bytes w a len l) (hlen:len≤2000) (hcap:len≤cap) (hsb:(o.sb:Int)≤2147483647) (hwt:(o.want:Int)≤2147483647) (kd:Int) (nm:List Int) (nb:Nat) (bs:List Int) (hms:Mx.Msg l (o.sb:Int) (o.want:Int) kd nm nb bs) (hw1:(o.want:Int)+1<2147483647) (o1:Of_) (ho1:o1.sb=o.sb∧o1.want=o.want∧o1.aN=false) (ht:∀ (W:World) (a1:Option Addr) (n1 c1:Nat) (a2:Option Addr) (c2:Nat),Mut S W→OtW B S W O n ae o→ay W a1 n1 nm→aU W a2 nb bs→n1≤c1→nb≤c2→Calls Tryz.prog 119 #[.pointer (some ⟨O,0,none⟩),.agg #[.int .i64 kd,.slice a1 n1 c1,.slice a2 nb c2]] W fun e w'=>e=.returned .nilIface∧Hid (OtD B S W w' O n ae o1)) :
 Calls Tryz.prog 87 #[.pointer (some ⟨O,0,none⟩),.slice a len cap] w fun e w'=>∃ v,e=.returned (.tuple #[v,.nilIface])∧Hid (OtD B S w w' O n ae {o1 with want:=o.want+1})∧Hid (cU S w' v (some (Mx.bd 0 [(o.sb:Int),(o.want:Int)+1] 0 []))):=by
 have HM:=aa hm;have HO:=aa ho;have HL:=aa hl;obtain⟨g,na,nn,nc,ha,hn,hc,X⟩:=ho;have HX:=aa X;obtain⟨x0,x1,x2,x3,x4,x5⟩:=X.bx.cells;have hw7:((o.want:Int)==2147483647)=false:=by simp;omega
 have HMS:=aa hms;have HT:=aa ht;have HO1:=aa ho1;have HMY:=aa (Mx.oO (x:=(o.sb:Int)) (y:=(o.want:Int)+1) (by omega) hsb (by omega) (by omega));clear hms ht ho1;clear hm hl X x0 x1 x4 x5;have q:∀ (w:World) (a:Option Addr) (n c n' c':Nat),(binOp .eql 77 (.slice a n c) (.slice none n' c')).run Tryz.prog w=.ok (.bool a.isNone) w:=fun w a n c n' c'=>Lib.run_eql_slice_nil w _ _ a n c n' c' Tryz.underlying77
 go_enter Tryz.func87,Tryz.ntmps87;go_wp2_with fail;refine(gy (o.sb:Int) (o.want:Int) a len cap l w HL.o hlen hcap (by omega) hsb (by omega) hwt).mono ?_;clear x2 x3;rintro e w1 ⟨hr,E1⟩;have HE1:=aa E1;clear E1;obtain⟨a1,n1,c1,a2,c2,vb,rfl,hi1,hk1,hc1,hc2,hvb⟩:∃ a1 n1 c1 a2 c2 vb,e=.returned (.tuple #[.agg #[.int .i64 (o.sb:Int),.int .i64 ((o.want:Int)+1)],.agg #[.int .i64 kd,.slice a1 n1 c1,.slice a2 nb c2],.bool true,vb,.nilIface])∧ay w1 a1 n1 nm∧aU w1 a2 nb bs∧n1≤c1∧nb≤c2∧Own w1 w.heap.size vb (Mx.bd 0 [(o.sb:Int),(o.want:Int)+1] 0 []):=by
  rcases hr with ⟨kd',nm',nb',bs',v,vb,h,hlt,he,hfr,hvb⟩|⟨x',kd',nm',nb',bs',vb,h,hnw,_⟩|⟨h,_⟩
  ·obtain⟨_,_,rfl,rfl,rfl,rfl⟩:=Mx.mP HMS.o h
   obtain⟨a1,n1,c1,a2,c2,hv,hi1,hk1,hc1,hc2,_⟩:=hfr;subst hv;exact⟨a1,n1,c1,a2,c2,vb,he,hi1,hk1,hc1,hc2,hvb⟩
  ·exact absurd ⟨(Mx.mP HMS.o h).2.1.symm,by omega⟩ hnw
  ·exact absurd HMS.o (h _ _ _ _ _)
 clear hr;have HI1:=aa hi1;have HK1:=aa hk1;have HC1:=aa hc1;have HC2:=aa hc2;clear hi1 hk1 hc1 hc2;obtain⟨ba,bc,hbv,hbc,hbr,hbp⟩:=Own.br hvb;have hbpos:=dM 0 [(o.sb:Int),(o.want:Int)+1] 0 [];obtain⟨bb,bo,hba,_⟩:=hbr.2.2.2 hbpos;obtain⟨BN,hBN⟩:∃ BN:Nat,Hid (BN=(Mx.bd 0 [(o.sb:Int),(o.want:Int)+1] 0 []).length):=⟨_,rfl⟩
 subst hba;rw[←hBN.o] at hbv;subst hbv;have HVB:=aa hvb;have HBC:=aa hbc;clear hvb hbc hbr hbp hbpos;obtain⟨W2,hW2⟩:∃ W2:World,Hid (W2=(w1.alloc (.cells #[.int .i64 (o.sb:Int),.int .i64 ((o.want:Int)+1)] 100)).alloc (.cells #[.int .i64 kd,.slice a1 n1 c1,.slice a2 nb c2] 157)):=⟨_,rfl⟩
 have D2:=aa (show Below w1.heap.size w1 W2 by rw[hW2.o];exact(af _ _).alloc (by simp) _);have B2:=aa (show Bx W2 w1.heap.size #[.int .i64 (o.sb:Int),.int .i64 ((o.want:Int)+1)] 100 by rw[hW2.o];exact(Bx.new w1 _ _).alloc _);have C2:=aa (show Bx W2 (w1.heap.size+1) #[.int .i64 kd,.slice a1 n1 c1,.slice a2 nb c2] 157 by
  rw[hW2.o];have h:=Bx.new (w1.alloc (.cells #[.int .i64 (o.sb:Int),.int .i64 ((o.want:Int)+1)] 100)) #[.int .i64 kd,.slice a1 n1 c1,.slice a2 nb c2] 157;rw[World.size_alloc] at h;exact h)
 have F2:=aa (show Below w.heap.size w W2 from HE1.o.trans (D2.o.mono HE1.o.size));go_upto_region 2 with fail
 rw[←hW2.o];have X2:=aa (HX.o.later F2.o);have M2:=aa (HM.o.later F2.o);obtain⟨x0,x1,x2,x3,x4,x5⟩:=X2.o.bx.cells;clear x0 x1 x2 x4 x5;obtain⟨f0,f1,f2⟩:=C2.o.three;go_wp2_with fail;refine(eY O (o.want:Int) W2 x3 false hw7).mono ?_;rintro e wz ⟨rfl,hz⟩;obtain rfl:=hz.symm;clear hz x3;go_wp2_with fail;refine(HT.o W2 a1 n1 c1 a2 c2 M2.o (HO.o.later F2.o) (HI1.o.later D2.o) (HK1.o.later D2.o) HC1.o HC2.o).mono ?_;rintro e w4 ⟨rfl,P4⟩;clear f0 f1 f2;have B4:=aa (show Bx w4 w1.heap.size #[.int .i64 (o.sb:Int),.int .i64 ((o.want:Int)+1)] 100 from Ex.bx P4.o.ext B2.o (fun hb=>by
  have h1:=HX.o.sub _ hb;have h2:=HM.o.lt _ h1;have h3:=HE1.o.size;omega))
 obtain⟨g4,na4,nn4,nc4,ha4,hn4,hc4,X4⟩:=P4.o.ot;have HX4:=aa X4;obtain⟨x0,x1,x2,x3,x4,x5⟩:=X4.bx.cells;have xz:=Bx.frozen X4.bx;clear X4 x0 x1 x4 x5;obtain⟨b0,b1⟩:=B4.o.pair;have hbO:¬w1.heap.size=O:=by
  have h1:=Bx.lt HX.o.bx;have h2:=HE1.o.size;omega
 have hbO2:¬O=w1.heap.size:=fun e=>hbO e.symm
 obtain⟨W5,hW5⟩:∃ W5:World,Hid (W5=(w4.setCell ⟨O,2,none⟩ (.int .i64 (o.sb:Int))).setCell ⟨O,3,none⟩ (.int .i64 ((o.want:Int)+1))):=⟨_,rfl⟩
 have G5:=aa (show w4.grownBy W5 (some O) by rw[hW5.o];exact al (al (ar _ _) _ _) _ _);have Z5:=aa (Ex.one G5.o);have hcw:((o.want+1:Nat):Int)=(o.want:Int)+1:=by push_cast;rfl
 have X5:=aa (show Obx W5 O g4 n (o1.sb:Int) ((o.want+1:Nat):Int) na4 nn4 nc4 ha4 hn4 hc4 by
  rw[hW5.o,hcw,HO1.o.1];exact Bx.set (Bx.set HX4.o.bx 2 _) 3 _)
 have M5:=aa (P4.o.mu.dY Z5.o X5.o fW);have hSO:∀ b,b=O→S b:=fun b e=>by rw[e];exact HX4.o.sub _ HX4.o.aO
 have R5:=aa (show OtR S W5 n ae {o1 with want:=o.want+1} g4 na4 nn4 nc4 ha4 hn4 hc4 from by
  have hr:=HX4.o.r.ext Z5.o hSO (fun e=>HX4.o.ne e.symm);refine⟨hr.nd,hr.nu,hr.nc,hr.hd,hr.hc,?_⟩;show o1.aN=_
  rw[HO1.o.2.2];simp;omega)
 have E5:=aa (show Ex B w W5 from((Ex.below (S:=B) F2.o).chain P4.o.ext (fun _ _ h=>h)).chain Z5.o (fun b _ e=>by rw[e];exact HX4.o.aO));have V3:=aa (show cU S w1 (.slice (some ⟨bb,bo,none⟩) BN bc) (some (Mx.bd 0 [(o.sb:Int),(o.want:Int)+1] 0 [])) from(cU.of HVB.o HM.o (FG _) (dM _ _ _ _) (eQ (fS w) HMY.o)));have VF:=aa (show cU S W5 (.slice (some ⟨bb,bo,none⟩) BN bc) (some (Mx.bd 0 [(o.sb:Int),(o.want:Int)+1] 0 [])) from by
  obtain⟨a',c',hv,hb,hc⟩:=V3.o;exact⟨a',c',hv,((hb.ext (Ex.below D2.o)).ext (P4.o.ext.mono (fun b _ e=>HX4.o.sub b e))).ext (Z5.o.mono (fun b _ e=>hSO b e)),hc⟩)
 clear hcw;go_wp2_with fail;rw[←hW5.o];exact bodyPost_ret (v:=.tuple #[.slice (some ⟨bb,bo,none⟩) BN bc,.nilIface]) (by simp[results,Tryz.results87,go_sem]) rfl ⟨_,rfl,aa ⟨M5.o,⟨g4,na4,nn4,nc4,ha4,hn4,hc4,X5.o,R5.o,HX4.o.aO,HX4.o.ag,HX4.o.sub⟩,E5.o⟩,VF⟩
end
section
open Go.RowKit Go.ChangeMaps
theorem wD (B S:Nat→Prop) (O n:Nat) (ae:List (List B8)) (o:Of_) (w:World) (hm:Mut S w) (ho:OtW B S w O n ae o) (a:Option Addr) (len cap:Nat) (l:List Int) (hl:Bytes w a len l) (hlen:len≤2000) (hcap:len≤cap) (hno:∀ k ns nb bs,¬Mx.aE l k ns nb bs) :
 Calls Tryz.prog 47 #[.pointer (some ⟨O,0,none⟩),.slice a len cap] w fun e w'=>∃ v,e=.returned (.tuple #[v,.nilIface])∧Hid (OtD B S w w' O n ae o)∧Hid (cU S w' v none):=by
 have HM:=aa hm;have HO:=aa ho;have HL:=aa hl;have HNO:=aa hno;clear hno;clear hm ho hl;go_enter Tryz.func47,Tryz.ntmps47;go_wp2_with fail;refine(cT a len cap l w HL.o hlen hcap).mono ?_;rintro e w1 ht;obtain⟨rfl,hE1⟩:e=.returned (.tuple #[.agg #[.int .i64 0,.slice none 0 0,.slice none 0 0],.iface 23 (.int .i64 3)])∧Below w.heap.size w w1:=by
  rcases ht with ⟨kind',nums',nb',bs',a1,c1,a2,c2,he,hf,_⟩|⟨he,_,hE⟩
  ·exact absurd hf (HNO.o _ _ _ _)
  ·exact⟨he,hE⟩
 have HE1:=aa hE1;clear ht hE1;obtain⟨W2,hW2⟩:∃ W2:World,Hid (W2=w1.alloc (.cells #[.int .i64 0,.slice none 0 0,.slice none 0 0] 157)):=⟨_,rfl⟩
 have D2:=beA hW2;have C2:=bxA hW2;have F2:=aa (show Below w.heap.size w W2 from HE1.o.trans (D2.o.mono HE1.o.size));go_upto_region 2 with fail
 rw[←hW2.o];go_wp2_with fail;exact bodyPost_ret (v:=.tuple #[.slice none 0 0,.nilIface]) (by simp[results,Tryz.results47,go_sem]) rfl ⟨_,rfl,aa (OtD.same HM.o HO.o F2.o),aa rfl⟩
theorem wE (B S:Nat→Prop) (O n:Nat) (ae:List (List B8)) (o:Of_) (w:World) (hm:Mut S w) (ho:OtW B S w O n ae o) (a:Option Addr) (len cap:Nat) (l:List Int) (hl:Bytes w a len l) (hlen:len≤2000) (hcap:len≤cap) (s:Nat) (hF:Mx.aE l 2 [(s:Int)] 0 []) (hs:(s:Int)≤2147483647) (hb:(o.back:Int)≤2147483647) :
 Calls Tryz.prog 47 #[.pointer (some ⟨O,0,none⟩),.slice a len cap] w fun e w'=>∃ v,e=.returned (.tuple #[v,.nilIface])∧Hid (OtD B S w w' O n ae (ep o s))∧Hid (cU S w' v (eM o s)):=by
 have HM:=aa hm;have HO:=aa ho;have HL:=aa hl;have HF:=aa hF;clear hF;clear hm ho hl;go_enter Tryz.func47,Tryz.ntmps47;go_wp2_with fail;refine(cT a len cap l w HL.o hlen hcap).mono ?_;rintro e w1 ht;obtain⟨a1,c1,a2,c2,rfl,hi1,hE1⟩:∃ a1 c1 a2 c2,e=.returned (.tuple #[.agg #[.int .i64 2,.slice a1 [(s:Int)].length c1,.slice a2 0 c2],.nilIface])∧ay w1 a1 [(s:Int)].length [(s:Int)]∧Below w.heap.size w w1:=by
  rcases ht with ⟨kind',nums',nb',bs',a1,c1,a2,c2,he,hf,hi1,_,_,_,_,_,hE⟩|⟨_,hno,_⟩
  ·obtain⟨rfl,rfl,rfl,rfl⟩:=Mx.aE.one HF.o hf
   exact⟨a1,c1,a2,c2,he,hi1,hE⟩
  ·exact absurd HF.o (hno _ _ _ _)
 have HE1:=aa hE1;have HI1:=aa hi1;clear ht hi1 hE1;obtain⟨W2,hW2⟩:∃ W2:World,Hid (W2=w1.alloc (.cells #[.int .i64 2,.slice a1 1 c1,.slice a2 0 c2] 157)):=⟨_,rfl⟩
 have D2:=beA hW2;have C2:=bxA hW2;have F2:=aa (show Below w.heap.size w W2 from HE1.o.trans (D2.o.mono HE1.o.size));go_upto_region 2 with fail
 rw[←hW2.o];obtain⟨f0,f1,f2⟩:=C2.o.three;obtain⟨ib,io,hia,hib,hic⟩:=HI1.o.2.2 (by simp);subst hia;have j0:W2.cell? ⟨ib,io,none⟩=some (.int .i64 (s:Int)):=(D2.o.cell (p:=⟨ib,io,none⟩) hib).trans (by simpa using hic 0 (by simp));clear hic;go_wp2_with fail;refine(yX B S O n ae o W2 (HM.o.later F2.o) (HO.o.later F2.o) s hs hb).mono ?_;rintro e w3 ⟨v,rfl,P3,V3⟩;clear f0 f1 f2 j0;go_wp2_with fail;exact bodyPost_ret (v:=.tuple #[v,.nilIface]) (by simp[results,Tryz.results47,go_sem]) rfl ⟨_,rfl,aa ⟨P3.o.mu,P3.o.ot,(Ex.below F2.o).trans P3.o.ext⟩,V3⟩
theorem yW (B S:Nat→Prop) (O n:Nat) (ae:List (List B8)) (o:Of_) (w:World) (hm:Mut S w) (ho:OtW B S w O n ae o) (a:Option Addr) (len cap:Nat) (l:List Int) (hl:Bytes w a len l) (hlen:len≤2000) (hcap:len≤cap) (ak:List Int) (nb:Nat) (bs:List Int) (hF:Mx.aE l 1 ak nb bs) (o1:Of_) (ans:Option (List Int)) (hr:∀ W:World,Mut S W→OtW B S W O n ae o→Bytes W a len l→Calls Tryz.prog 87 #[.pointer (some ⟨O,0,none⟩),.slice a len cap] W fun e w'=>∃ v,e=.returned (.tuple #[v,.nilIface])∧Hid (OtD B S W w' O n ae o1)∧Hid (cU S w' v ans)) :
 Calls Tryz.prog 47 #[.pointer (some ⟨O,0,none⟩),.slice a len cap] w fun e w'=>∃ v,e=.returned (.tuple #[v,.nilIface])∧Hid (OtD B S w w' O n ae o1)∧Hid (cU S w' v ans):=by
 have HM:=aa hm;have HO:=aa ho;have HL:=aa hl;have HF:=aa hF;have HR:=aa hr;clear hF hr;clear hm ho hl;go_enter Tryz.func47,Tryz.ntmps47;go_wp2_with fail;refine(cT a len cap l w HL.o hlen hcap).mono ?_;rintro e w1 ht;obtain⟨a1,c1,a2,c2,rfl,hi1,hE1⟩:∃ a1 c1 a2 c2,e=.returned (.tuple #[.agg #[.int .i64 1,.slice a1 ak.length c1,.slice a2 nb c2],.nilIface])∧ay w1 a1 ak.length ak∧Below w.heap.size w w1:=by
  rcases ht with ⟨kind',nums',nb',bs',a1,c1,a2,c2,he,hf,hi1,_,_,_,_,_,hE⟩|⟨_,hno,_⟩
  ·obtain⟨rfl,rfl,rfl,rfl⟩:=Mx.aE.one HF.o hf
   exact⟨a1,c1,a2,c2,he,hi1,hE⟩
  ·exact absurd HF.o (hno _ _ _ _)
 have HE1:=aa hE1;have HI1:=aa hi1;clear ht hi1 hE1;obtain⟨NN,hNN⟩:∃ NN:Nat,Hid (NN=ak.length):=⟨_,rfl⟩
 rw[←hNN.o];obtain⟨W2,hW2⟩:∃ W2:World,Hid (W2=w1.alloc (.cells #[.int .i64 1,.slice a1 NN c1,.slice a2 nb c2] 157)):=⟨_,rfl⟩
 have D2:=beA hW2;have C2:=bxA hW2;have F2:=aa (show Below w.heap.size w W2 from HE1.o.trans (D2.o.mono HE1.o.size));go_upto_region 2 with fail
 rw[←hW2.o];obtain⟨f0,f1,f2⟩:=C2.o.three;go_wp2_with fail;refine(HR.o W2 (HM.o.later F2.o) (HO.o.later F2.o) (HL.o.later F2.o)).mono ?_;rintro e w3 ⟨v,rfl,P3,V3⟩;clear f0 f1 f2;go_wp2_with fail;exact bodyPost_ret (v:=.tuple #[v,.nilIface]) (by simp[results,Tryz.results47,go_sem]) rfl ⟨_,rfl,aa ⟨P3.o.mu,P3.o.ot,(Ex.below F2.o).trans P3.o.ext⟩,V3⟩
end
section
open Go.RowKit Go.ChangeMaps
def Cm:Code→Code
 | .block _ (.seq _ (.cond _ _ (.seq _ (.cond _ _ d)))) => d
 | c => c
theorem xY {c c':Code} {Q:Exit→Act→World→Prop} {a:Act} {x:World} (h:c=c') (hs:Code.wp Tryz.prog c' Q a x):Code.wp Tryz.prog c Q a x:=h▸hs
theorem phd {A S:Nat→Prop} {P n:Nat} {ae:List (List B8)} {b:Bu} {p:Pf_} {w W:World} {a:Option Addr} {len cap:Nat} {l:List Int} (HPW:Hid (PrW A S W P n ae b p)) (HMW:Hid (Mut S W)) (HLW:Hid (Bytes W a len l)) (hlen:len≤2000) (hcap:len≤cap) (FV:Hid (Below w.heap.size w W)) (HSD:Hid (Mx.bF ⟨(p.s:Int),(p.base:Int),p.queue⟩=0)) {G:Nat} (HG:Hid (Mx.iQ (p.s:Int) (p.base:Int) p.queue.length l G)) {u2 u3 u4 u5 u6 u7 u8 u9 u10 u11 u12 u13 u14 u15 u16 u17 u18 u19 u20 u21 u22 u23 u24 u25 u26 u27 u28 u29 u30 u31 u32 u33 u34 u35 u36 u37 u38 u39 u40 u41 u42 u43 u44 u45 u46 u47 u48 u49 u50 u51 u52 u53 u54 u55 u56 u57 u58 u59 u60 u61 u62 u63 u64 u65 u66 u67 u68 u69 u70 u71 u72 u73 u74 u75 u76 u77 u78 u79 u80 u81 u82 u83 u84 u85 u86 u87 u88 u89:Value} {Q:Exit→Act→World→Prop} {K:Act→World→Prop} (hK:∀ a' x',Code.wp Tryz.prog (EM (Cm (mI (fV 4 (Tryz.f46.body.getD .skip))))) Q a' x'→K a' x') (hQ:∀ (v8 v9 v22 v23 v24 v25 v26 v27 v28 v29 v30 v31 v32 v33 v34 v35 v36 v37:Value) (x':World),Hid (Mut S x'∧PrW A S x' P n ae b {p with base:=p.base+G,queue:=p.queue.drop G}∧Ex A w x')→Q .normal ⟨#[.pointer (some ⟨P,0,none⟩),.slice a len cap,u2,u3,u4,u5,u6,u7,v8,v9,u10,u11,u12,u13,u14,u15,u16,u17,u18,u19,u20,u21,v22,v23,v24,v25,v26,v27,v28,v29,v30,v31,v32,v33,v34,v35,v36,v37,u38,u39,u40,u41,u42,u43,u44,u45,u46,u47,u48,u49,u50,u51,u52,u53,u54,u55,u56,u57,u58,u59,u60,u61,u62,u63,u64,u65,u66,u67,u68,u69,u70,u71,u72,u73,u74,u75,u76,u77,u78,u79,u80,u81,u82,u83,u84,u85,u86,u87,u88,u89],[]⟩ x') :
 Code.wp Tryz.prog (mI (Cm (mI (fV 4 (Tryz.f46.body.getD .skip))))) (Exit.then K Q) ⟨#[.pointer (some ⟨P,0,none⟩),.slice a len cap,u2,u3,u4,u5,u6,u7,u8,u9,u10,u11,u12,u13,u14,u15,u16,u17,u18,u19,u20,u21,u22,u23,u24,u25,u26,u27,u28,u29,u30,u31,u32,u33,u34,u35,u36,u37,u38,u39,u40,u41,u42,u43,u44,u45,u46,u47,u48,u49,u50,u51,u52,u53,u54,u55,u56,u57,u58,u59,u60,u61,u62,u63,u64,u65,u66,u67,u68,u69,u70,u71,u72,u73,u74,u75,u76,u77,u78,u79,u80,u81,u82,u83,u84,u85,u86,u87,u88,u89],[]⟩ W:=by
 have HQ:=aa @hQ;have hK2:∀ a' x',Code.wp Tryz.prog _ Q a' x'→K a' x':=fun a' x' h=>hK a' x' (xY (c':=.seq _ _) rfl h)
 clear hQ hK;obtain⟨g,oa,on,oc,sa,sn,sc,m,qa,qn,qc,ha,hn,hc,X⟩:=HPW.o;have HX:=aa X;clear X;obtain⟨x0,x1,x2,x3,x4,x5,x6,x7,x8,x9,x10,x11,x12,x13⟩:=HX.o.bx.cells;clear x0 x1 x2 x3 x4 x5 x6 x7 x11 x12 x13;refine xY (c':=.region _ _ _) rfl ?_;go_wp2_with fail;have HQL:=aa (show Mx.bF ⟨(p.s:Int),(p.base:Int),p.queue⟩=0 from HSD.o);refine(wb (p.s:Int) (p.base:Int) qa qn qc p.queue a len cap l W HX.o.r.qu.fl HX.o.r.qc HLW.o hlen hcap).mono ?_;rintro e w5 ⟨v,rfl,S5,E5⟩;obtain⟨gg,hgg,hSd⟩:∃ gg,Mx.iQ (p.s:Int) (p.base:Int) qn l gg∧SdA W.heap.size w5 v ⟨(p.s:Int),(p.base:Int)+(gg:Int),p.queue.drop gg⟩:=by
  rcases S5.o with ⟨h9,_⟩|⟨_,gg,h9,h8⟩
  ·exact absurd HQL.o h9
  ·exact⟨gg,h9,h8⟩
 have hge:gg=G:=by
  have h9:=HG.o;rw[HX.o.r.qu.1] at h9;exact Mx.AS hgg h9
 subst hge;obtain⟨za,zn,zc,hzv,hzq,hzc⟩:=hSd.sdo HMW.o (FG _);subst hzv;have HZQ:=aa hzq;have HZC:=aa hzc;rw[HQL.o,aH];clear S5 hgg hSd hzq hzc HQL x8 x9 x10;obtain⟨W6,hW6⟩:∃ W6:World,Hid (W6=w5.alloc (.cells #[.int .i64 (p.s:Int),.int .i64 ((p.base:Int)+(gg:Int)),.slice za zn zc] 94)):=⟨_,rfl⟩
 have D6:=beA hW6;have C6:=bxA hW6;have F6:=aa (show Below W.heap.size W W6 from E5.o.trans (D6.o.mono E5.o.size));have X6:=aa (HX.o.later F6.o);have M6:=aa (HMW.o.later F6.o);go_upto_region 6 with fail
 rw[←hW6.o];obtain⟨x0,x1,x2,x3,x4,x5,x6,x7,x8,x9,x10,x11,x12,x13⟩:=X6.o.bx.cells;have xz:=Bx.frozen X6.o.bx;clear x0 x1 x2 x3 x4 x5 x6 x7 x11 x12 x13;obtain⟨s0,s1,s2⟩:=C6.o.three;have hsP:¬w5.heap.size=P:=by
  have h9:=Bx.lt HX.o.bx;have h8:=E5.o.size;omega
 have hsP2:¬P=w5.heap.size:=fun e=>hsP e.symm
 obtain⟨W7,hW7⟩:∃ W7:World,Hid (W7=((W6.setCell ⟨P,8,none⟩ (.int .i64 (p.s:Int))).setCell ⟨P,9,none⟩ (.int .i64 ((p.base:Int)+(gg:Int)))).setCell ⟨P,10,none⟩ (.slice za zn zc)):=⟨_,rfl⟩
 have G7:=aa (show W6.grownBy W7 (some P) by rw[hW7.o];exact al (al (al (ar _ _) _ _) _ _) _ _);have Z7:=aa (Ex.one G7.o);have hcb:((p.base+gg:Nat):Int)=(p.base:Int)+(gg:Int):=by push_cast;rfl
 have X7:=aa (show Pbx W7 P g n b.num oa on oc sa sn sc b.be m (p.safe:Int) (p.s:Int) ((p.base+gg:Nat):Int) za zn zc p.known (p.goal:Int) ha hn hc by
  rw[hW7.o,hcb];exact((Bx.set X6.o.bx 8 _).set 9 _).set 10 _)
 have M7:=aa (M6.o.dY Z7.o X7.o fm);have hSP:∀ b,b=P→S b:=fun b e=>by rw[e];exact X6.o.sub _ X6.o.aP
 have R7:=aa (show PrR S W7 n ae b {p with base:=p.base+gg,queue:=p.queue.drop gg} g oa on oc sa sn sc m za zn zc ha hn hc from by
  have hr:=X6.o.r.ext Z7.o hSP (fun e=>X6.o.ne.1 e.symm) (fun e=>X6.o.ne.2.1 e.symm);exact⟨hr.nd,hr.bu,hr.mp,(HZQ.o.oJ (Ex.below D6.o)).oJ (Z7.o.mono (fun b _ e=>hSP b e)),HZC.o,hr.hd,hr.hc,hr.num⟩)
 have PW:=aa (show PrW A S W7 P n ae b {p with base:=p.base+gg,queue:=p.queue.drop gg} from⟨g,oa,on,oc,sa,sn,sc,m,za,zn,zc,ha,hn,hc,X7.o,R7.o,X6.o.aP,X6.o.ag,X6.o.am,X6.o.sub⟩);have E7:=aa (show Ex A w W7 from((Ex.below (S:=A) FV.o).chain (Ex.below (S:=A) F6.o) (fun _ _ h=>h)).chain Z7.o (fun b _ e=>by rw[e];exact X6.o.aP));go_wp2_with fail;rw[←hW7.o];exact HQ.o _ _ _ _ _ _ _ _ _ _ _ _ _ _ _ _ _ _ _ (aa ⟨M7.o,PW.o,E7.o⟩)
theorem nF (b1 o1 c1 b2 o2 c2:Nat) (x y:Int) (w:World) (h1:w.cell? ⟨b1,o1,none⟩=some (.int .i64 x)) (h2:w.cell? ⟨b2,o2,none⟩=some (.int .i64 y)) (hl1:b1<w.heap.size) (hl2:b2<w.heap.size) (_hc1:1≤c1) (_hc2:1≤c2) :
 Calls Tryz.prog 83 #[.slice (some ⟨b1,o1,none⟩) 1 c1,.slice (some ⟨b2,o2,none⟩) 1 c2] w fun e w'=>e=.returned (.bool (decide (x=y)))∧Hid (Below w.heap.size w w'):=by
 have H1:=aa h1;have H2:=aa h2;clear h1 h2;go_enter Tryz.func83,Tryz.ntmps83;go_wp2_with fail;go_loopw [13] (fun t wr=>(t=.int .i64 0∨(t=.int .i64 1∧Hid (x=y)))∧Hid (Below w.heap.size w wr)) (fun t _=>1-(intOf t).toNat)
 case atStart=>exact⟨.inl rfl,Below.refl _ _⟩
 case round =>
  obtain⟨hr,hB⟩:=hrel;rcases hr with rfl|⟨rfl,hxy⟩
  ·have y1:=(hB.o.cell (p:=⟨b1,o1,none⟩) hl1).trans H1.o
   have y2:=(hB.o.cell (p:=⟨b2,o2,none⟩) hl2).trans H2.o;by_cases he:x=y
   ·have hd:(x != y)=false:=by simpa using he
    have HE:=aa he;clear he;go_upto_region 6 with fail
    go_quiet (fail)
    go_wp2_with fail;go_roundw
    case rel=>exact⟨.inr ⟨rfl,HE⟩,aa (below_drewN hB.o _)⟩
    case measure=>simp[intOf]
   ·have hd:(x != y)=true:=by simpa using he
    have HE:=aa he;clear he;go_upto_region 6 with fail
    go_quiet (fail)
    go_wp2_with fail;go_ret;exact⟨by rw[decide_eq_false HE.o]<;>rfl,aa (below_drewN hB.o _)⟩
  ·go_wp2_with fail
   go_ret;exact⟨by rw[decide_eq_true hxy.o]<;>rfl,hB⟩
theorem wR (A S:Nat→Prop) (P n:Nat) (ae:List (List B8)) (b:Bu) (p:Pf_) (w:World) (hm:Mut S w) (hp:PrW A S w P n ae b p) (a:Option Addr) (len cap:Nat) (l:List Int) (hl:Bytes w a len l) (hlen:len≤2000) (hcap:len≤cap) (hno:∀ k ns nb bs,¬Mx.aE l k ns nb bs) :
 Calls Tryz.prog 46 #[.pointer (some ⟨P,0,none⟩),.slice a len cap] w fun e w'=>e=.returned .nilIface∧Hid (PrD A S w w' P n ae b p):=by
 have HM:=aa hm;have HP:=aa hp;have HL:=aa hl;have HNO:=aa hno;clear hno;clear hm hp hl;go_enter Tryz.func46,Tryz.ntmps46;go_wp2_with fail;refine(cT a len cap l w HL.o hlen hcap).mono ?_;rintro e w1 ht;obtain⟨rfl,hE1⟩:e=.returned (.tuple #[.agg #[.int .i64 0,.slice none 0 0,.slice none 0 0],.iface 23 (.int .i64 3)])∧Below w.heap.size w w1:=by
  rcases ht with ⟨kind',nums',nb',bs',a1,c1,a2,c2,he,hf,_⟩|⟨he,_,hE⟩
  ·exact absurd hf (HNO.o _ _ _ _)
  ·exact⟨he,hE⟩
 have HE1:=aa hE1;clear ht hE1;obtain⟨W2,hW2⟩:∃ W2:World,Hid (W2=w1.alloc (.cells #[.int .i64 0,.slice none 0 0,.slice none 0 0] 157)):=⟨_,rfl⟩
 have D2:=beA hW2;have C2:=bxA hW2;have F2:=aa (show Below w.heap.size w W2 from HE1.o.trans (D2.o.mono HE1.o.size));go_upto_region 2 with fail
 rw[←hW2.o];go_wp2_with fail;exact bodyPost_ret (v:=.nilIface) (by simp[results,Tryz.results46,go_sem]) rfl ⟨rfl,aa (PrD.same HM.o HP.o F2.o)⟩
theorem wQ (A S:Nat→Prop) (P n:Nat) (ae:List (List B8)) (b:Bu) (p:Pf_) (w:World) (hm:Mut S w) (hp:PrW A S w P n ae b p) (a:Option Addr) (len cap:Nat) (l:List Int) (hl:Bytes w a len l) (hlen:len≤2000) (hcap:len≤cap) (s:Nat) (hF:Mx.aE l 4 [(s:Int)] 0 []) (hs:s=p.s) (hs2:((p.s+1:Nat):Int)≤2147483647) (hh:(p.ao:Int)≤2147483647) :
 Calls Tryz.prog 46 #[.pointer (some ⟨P,0,none⟩),.slice a len cap] w fun e w'=>e=.returned .nilIface∧Hid (PrD A S w w' P n ae b ⟨p.ao,p.s+1,p.safe,false,p.goal,0,[],[]⟩):=by
 have HM:=aa hm;have HP:=aa hp;have HL:=aa hl;have HF:=aa hF;clear hF;have HS:=aa hs;have HS2:=aa hs2;have HHV:=aa hh;clear hs hs2 hh;clear hm hp hl;go_enter Tryz.func46,Tryz.ntmps46;go_wp2_with fail;refine(cT a len cap l w HL.o hlen hcap).mono ?_;rintro e w1 ht;obtain⟨a1,c1,a2,c2,hc1,rfl,hi1,hE1⟩:∃ a1 c1 a2 c2,1≤c1∧e=.returned (.tuple #[.agg #[.int .i64 4,.slice a1 [(s:Int)].length c1,.slice a2 0 c2],.nilIface])∧ay w1 a1 [(s:Int)].length [(s:Int)]∧Below w.heap.size w w1:=by
  rcases ht with ⟨kind',nums',nb',bs',a1,c1,a2,c2,he,hf,hi1,_,_,_,hcc,_,hE⟩|⟨_,hno,_⟩
  ·obtain⟨rfl,rfl,rfl,rfl⟩:=Mx.aE.one HF.o hf
   exact⟨a1,c1,a2,c2,hcc,he,hi1,hE⟩
  ·exact absurd HF.o (hno _ _ _ _)
 have HE1:=aa hE1;have HI1:=aa hi1;have HC1:=aa hc1;clear ht hi1 hE1 hc1;obtain⟨W2,hW2⟩:∃ W2:World,Hid (W2=w1.alloc (.cells #[.int .i64 4,.slice a1 1 c1,.slice a2 0 c2] 157)):=⟨_,rfl⟩
 have D2:=beA hW2;have C2:=bxA hW2;have F2:=aa (show Below w.heap.size w W2 from HE1.o.trans (D2.o.mono HE1.o.size));go_upto_region 2 with fail
 rw[←hW2.o];obtain⟨ib,io,hia,hib,hic⟩:=HI1.o.2.2 (by simp);subst hia;have j0:W2.cell? ⟨ib,io,none⟩=some (.int .i64 (s:Int)):=(D2.o.cell (p:=⟨ib,io,none⟩) hib).trans (by simpa using hic 0 (by simp));have HP2:=aa (HP.o.later F2.o);have M2:=aa (HM.o.later F2.o);obtain⟨g,oa,on,oc,sa,sn,sc,m,qa,qn,qc,ha,hn,hc,X⟩:=HP2.o;have HX:=aa X;clear X;obtain⟨x0,x1,x2,x3,x4,x5,x6,x7,x8,x9,x10,x11,x12,x13⟩:=HX.o.bx.cells;obtain⟨f0,f1,f2⟩:=C2.o.three;have hc11:1≤c1:=HC1.o;clear hic x0 x1 x2 x3 x4 x5 x6 x7 x9 x10 x11 x12 x13;obtain⟨W3,hW3⟩:∃ W3:World,Hid (W3=W2.alloc (.cells #[.int .i64 (p.s:Int)] 3)):=⟨_,rfl⟩
 have D3:=beA hW3;have k0:W3.cell? ⟨W2.heap.size,0,none⟩=some (.int .i64 (p.s:Int)):=by
  rw[hW3.o];exact(Bx.new W2 #[.int .i64 (p.s:Int)] 3).cell 0
 have k1:W3.cell? ⟨ib,io,none⟩=some (.int .i64 (s:Int)):=(D3.o.cell (p:=⟨ib,io,none⟩) (Fz hib D2.o.size)).trans j0;have hk2:W2.heap.size<W3.heap.size:=by rw[hW3.o];simp
 have hk3:ib<W3.heap.size:=Fz hib (FM D2.o.size D3.o.size);go_wp2_with fail;rw[←hW3.o];refine(nF ib io c1 W2.heap.size 0 1 (s:Int) (p.s:Int) W3 k1 k0 hk3 hk2 hc11 (by omega)).mono ?_;rintro e w4 ⟨rfl,E4⟩;have F4:=aa (show Below W2.heap.size W2 w4 from D3.o.trans (E4.o.mono D3.o.size));have hde:decide ((s:Int)=(p.s:Int))=true:=by
  exact decide_eq_true (by rw[HS.o])
 rw[hde];clear hde;have F5:=aa (show Below w.heap.size w w4 from F2.o.trans (F4.o.mono F2.o.size));have hs3:(p.s:Int)+1≤2147483647:=by have h9:=HS2.o;omega
 clear f0 f1 f2 j0 k0 k1;go_wp2_with fail;have HO:=BC A S P n ae b p w4 (HM.o.later F5.o) (HP.o.later F5.o) (p.s+1) HS2.o HHV.o;have hcs:((p.s+1:Nat):Int)=(p.s:Int)+1:=by push_cast;rfl
 rw[hcs] at HO;refine HO.mono ?_;clear HO hcs;rintro e w6 ⟨rfl,P6⟩;go_wp2_with fail;exact bodyPost_ret (v:=.nilIface) (by simp[results,Tryz.results46,go_sem]) rfl ⟨rfl,aa ⟨P6.o.mu,P6.o.pr,(Ex.below F5.o).trans P6.o.ext⟩⟩
theorem wT (A S:Nat→Prop) (P n:Nat) (ae:List (List B8)) (b:Bu) (p:Pf_) (w:World) (hm:Mut S w) (hp:PrW A S w P n ae b p) (a:Option Addr) (len cap:Nat) (l:List Int) (hl:Bytes w a len l) (hlen:len≤2000) (hcap:len≤cap) (s:Nat) (hF:Mx.aE l 4 [(s:Int)] 0 []) (hs:s≠p.s) (hb:Mx.aL b n=0) (hgl:p.known=true→p.goal≤p.ao) (hh:(p.ao:Int)≤2147483647) (hsd:Mx.bF ⟨(p.s:Int),(p.base:Int),p.queue⟩=0) (G:Nat) (hG:Mx.iQ (p.s:Int) (p.base:Int) p.queue.length l G) :
 Calls Tryz.prog 46 #[.pointer (some ⟨P,0,none⟩),.slice a len cap] w fun e w'=>e=.returned .nilIface∧Hid (PrD A S w w' P n ae (eB b {p with base:=p.base+G,queue:=p.queue.drop G}) (Mx.Mir.aW {p with base:=p.base+G,queue:=p.queue.drop G})):=by
 have HM:=aa hm;have HP:=aa hp;have HL:=aa hl;have HF:=aa hF;clear hF;have HS:=aa hs;clear hs;have HBM:=aa hb;have HGL:=aa hgl;have HHV:=aa hh;have HSD:=aa hsd;have HG:=aa hG;clear hb hgl hh hsd hG;clear hm hp hl;go_enter Tryz.func46,Tryz.ntmps46;go_wp2_with fail;refine(cT a len cap l w HL.o hlen hcap).mono ?_;rintro e w1 ht;obtain⟨a1,c1,a2,c2,hc1,rfl,hi1,hE1⟩:∃ a1 c1 a2 c2,1≤c1∧e=.returned (.tuple #[.agg #[.int .i64 4,.slice a1 [(s:Int)].length c1,.slice a2 0 c2],.nilIface])∧ay w1 a1 [(s:Int)].length [(s:Int)]∧Below w.heap.size w w1:=by
  rcases ht with ⟨kind',nums',nb',bs',a1,c1,a2,c2,he,hf,hi1,_,_,_,hcc,_,hE⟩|⟨_,hno,_⟩
  ·obtain⟨rfl,rfl,rfl,rfl⟩:=Mx.aE.one HF.o hf
   exact⟨a1,c1,a2,c2,hcc,he,hi1,hE⟩
  ·exact absurd HF.o (hno _ _ _ _)
 have HE1:=aa hE1;have HI1:=aa hi1;have HC1:=aa hc1;clear ht hi1 hE1 hc1;obtain⟨W2,hW2⟩:∃ W2:World,Hid (W2=w1.alloc (.cells #[.int .i64 4,.slice a1 1 c1,.slice a2 0 c2] 157)):=⟨_,rfl⟩
 have D2:=beA hW2;have C2:=bxA hW2;have F2:=aa (show Below w.heap.size w W2 from HE1.o.trans (D2.o.mono HE1.o.size));go_upto_region 2 with fail
 rw[←hW2.o];obtain⟨ib,io,hia,hib,hic⟩:=HI1.o.2.2 (by simp);subst hia;have j0:W2.cell? ⟨ib,io,none⟩=some (.int .i64 (s:Int)):=(D2.o.cell (p:=⟨ib,io,none⟩) hib).trans (by simpa using hic 0 (by simp));have HP2:=aa (HP.o.later F2.o);have M2:=aa (HM.o.later F2.o);obtain⟨g,oa,on,oc,sa,sn,sc,m,qa,qn,qc,ha,hn,hc,X⟩:=HP2.o;have HX:=aa X;clear X;obtain⟨x0,x1,x2,x3,x4,x5,x6,x7,x8,x9,x10,x11,x12,x13⟩:=HX.o.bx.cells;obtain⟨f0,f1,f2⟩:=C2.o.three;have hc11:1≤c1:=HC1.o;clear hic x0 x1 x2 x3 x4 x5 x6 x7 x9 x10 x11 x12 x13;obtain⟨W3,hW3⟩:∃ W3:World,Hid (W3=W2.alloc (.cells #[.int .i64 (p.s:Int)] 3)):=⟨_,rfl⟩
 have D3:=beA hW3;have k0:W3.cell? ⟨W2.heap.size,0,none⟩=some (.int .i64 (p.s:Int)):=by
  rw[hW3.o];exact(Bx.new W2 #[.int .i64 (p.s:Int)] 3).cell 0
 have k1:W3.cell? ⟨ib,io,none⟩=some (.int .i64 (s:Int)):=(D3.o.cell (p:=⟨ib,io,none⟩) (Fz hib D2.o.size)).trans j0;have hk2:W2.heap.size<W3.heap.size:=by rw[hW3.o];simp
 have hk3:ib<W3.heap.size:=Fz hib (FM D2.o.size D3.o.size);go_wp2_with fail;rw[←hW3.o];refine(nF ib io c1 W2.heap.size 0 1 (s:Int) (p.s:Int) W3 k1 k0 hk3 hk2 hc11 (by omega)).mono ?_;rintro e w4 ⟨rfl,E4⟩;have F4:=aa (show Below W2.heap.size W2 w4 from D3.o.trans (E4.o.mono D3.o.size));have hde:decide ((s:Int)=(p.s:Int))=false:=by
  exact decide_eq_false (by have h9:=HS.o;omega)
 rw[hde];clear hde;have FV:=aa (show Below w.heap.size w w4 from F2.o.trans (F4.o.mono F2.o.size));have X4:=aa (HX.o.later F4.o);have M4:=aa (M2.o.later F4.o);have HLV:=aa (HL.o.later FV.o);have C4:=aa (C2.o.later F4.o C2.o.lt);clear f0 f1 f2 j0 k0 k1 x8;obtain⟨x0,x1,x2,x3,x4,x5,x6,x7,x8,x9,x10,x11,x12,x13⟩:=X4.o.bx.cells;obtain⟨f0,f1,f2⟩:=C4.o.three;clear x0 x1 x2 x3 x4 x5 x6 x7 x11 x12 x13;go_upto_region 5 with fail
 refine phd (aa (HP.o.later FV.o)) (aa (HM.o.later FV.o)) HLV hlen hcap FV HSD HG (by assumption) ?_;intro v8 v9 v22 v23 v24 v25 v26 v27 v28 v29 v30 v31 v32 v33 v34 v35 v36 v37 x' H;go_wp2_with fail;refine(gB A S P n ae b {p with base:=p.base+G,queue:=p.queue.drop G} x' H.o.1 H.o.2.1 HBM.o HGL.o HHV.o).mono ?_;rintro e w8 ⟨rfl,P8⟩;go_wp2_with fail;exact bodyPost_ret (v:=.nilIface) (by simp[results,Tryz.results46,go_sem]) rfl ⟨rfl,aa ⟨P8.o.mu,P8.o.pr,H.o.2.2.trans P8.o.ext⟩⟩
theorem zu (A S:Nat→Prop) (P n:Nat) (ae:List (List B8)) (b:Bu) (p:Pf_) (w:World) (hm:Mut S w) (hp:PrW A S w P n ae b p) (a:Option Addr) (len cap:Nat) (l:List Int) (hl:Bytes w a len l) (hlen:len≤2000) (hcap:len≤cap) (s h:Nat) (hF:Mx.aE l 3 [(s:Int),(h:Int)] 0 []) (hs:s=p.s) (hk:p.known=false) (hb:Mx.aL b n=0) (hgl:h≤p.ao) (hh:(p.ao:Int)≤2147483647) :
 Calls Tryz.prog 46 #[.pointer (some ⟨P,0,none⟩),.slice a len cap] w fun e w'=>e=.returned .nilIface∧Hid (PrD A S w w' P n ae (eB b {p with known:=true,goal:=h}) (Mx.Mir.aW {p with known:=true,goal:=h})):=by
 have HM:=aa hm;have HP:=aa hp;have HL:=aa hl;have HF:=aa hF;clear hF;have HS:=aa hs;have HK:=aa hk;have HBM:=aa hb;have HGL:=aa hgl;have HHV:=aa hh;clear hs hk hb hgl hh;clear hm hp hl;go_enter Tryz.func46,Tryz.ntmps46;go_wp2_with fail;refine(cT a len cap l w HL.o hlen hcap).mono ?_;rintro e w1 ht;obtain⟨a1,c1,a2,c2,rfl,hi1,hE1⟩:∃ a1 c1 a2 c2,e=.returned (.tuple #[.agg #[.int .i64 3,.slice a1 [(s:Int),(h:Int)].length c1,.slice a2 0 c2],.nilIface])∧ay w1 a1 [(s:Int),(h:Int)].length [(s:Int),(h:Int)]∧Below w.heap.size w w1:=by
  rcases ht with ⟨kind',nums',nb',bs',a1,c1,a2,c2,he,hf,hi1,_,_,_,_,_,hE⟩|⟨_,hno,_⟩
  ·obtain⟨rfl,rfl,rfl,rfl⟩:=Mx.aE.one HF.o hf
   exact⟨a1,c1,a2,c2,he,hi1,hE⟩
  ·exact absurd HF.o (hno _ _ _ _)
 have HE1:=aa hE1;have HI1:=aa hi1;clear ht hi1 hE1;obtain⟨W2,hW2⟩:∃ W2:World,Hid (W2=w1.alloc (.cells #[.int .i64 3,.slice a1 2 c1,.slice a2 0 c2] 157)):=⟨_,rfl⟩
 have D2:=beA hW2;have C2:=bxA hW2;have F2:=aa (show Below w.heap.size w W2 from HE1.o.trans (D2.o.mono HE1.o.size));go_upto_region 2 with fail
 rw[←hW2.o];obtain⟨ib,io,hia,hib,hic⟩:=HI1.o.2.2 (by simp);subst hia;have j0:W2.cell? ⟨ib,io,none⟩=some (.int .i64 (s:Int)):=(D2.o.cell (p:=⟨ib,io,none⟩) hib).trans (by simpa using hic 0 (by simp));have j1:W2.cell? ⟨ib,io+1,none⟩=some (.int .i64 (h:Int)):=(D2.o.cell (p:=⟨ib,io+1,none⟩) hib).trans (by simpa using hic 1 (by simp));clear hic;have HP2:=aa (HP.o.later F2.o);have M2:=aa (HM.o.later F2.o);obtain⟨g,oa,on,oc,sa,sn,sc,m,qa,qn,qc,ha,hn,hc,X⟩:=HP2.o;have HX:=aa X;clear X;obtain⟨x0,x1,x2,x3,x4,x5,x6,x7,x8,x9,x10,x11,x12,x13⟩:=HX.o.bx.cells;obtain⟨f0,f1,f2⟩:=C2.o.three;rw[HK.o] at x11;have xz:=Bx.frozen HX.o.bx;have hde:((s:Int)==(p.s:Int))=true:=by rw[HS.o];simp
 have hde2:(s==p.s)=true:=by rw[HS.o];simp
 clear x0 x1 x2 x3 x4 x5 x6 x7 x9 x10 x13;obtain⟨W3,hW3⟩:∃ W3:World,Hid (W3=(W2.setCell ⟨P,11,none⟩ (.bool true)).setCell ⟨P,12,none⟩ (.int .i64 (h:Int))):=⟨_,rfl⟩
 have G3:=aa (show W2.grownBy W3 (some P) by rw[hW3.o];exact al (al (ar _ _) _ _) _ _);have Z3:=aa (Ex.one G3.o);have X3:=aa (show Pbx W3 P g n b.num oa on oc sa sn sc b.be m (p.safe:Int) (p.s:Int) (p.base:Int) qa qn qc true (h:Int) ha hn hc by
  rw[hW3.o];exact(Bx.set HX.o.bx 11 _).set 12 _)
 have M3:=aa (M2.o.dY Z3.o X3.o fm);have hSP:∀ b,b=P→S b:=fun b e=>by rw[e];exact HX.o.sub _ HX.o.aP
 have R3:=aa (show PrR S W3 n ae b {p with known:=true,goal:=h} g oa on oc sa sn sc m qa qn qc ha hn hc from by
  have hr:=HX.o.r.ext Z3.o hSP (fun e=>HX.o.ne.1 e.symm) (fun e=>HX.o.ne.2.1 e.symm);exact⟨hr.nd,hr.bu,hr.mp,hr.qu,hr.qc,hr.hd,hr.hc,hr.num⟩)
 have PW:=aa (show PrW A S W3 P n ae b {p with known:=true,goal:=h} from⟨g,oa,on,oc,sa,sn,sc,m,qa,qn,qc,ha,hn,hc,X3.o,R3.o,HX.o.aP,HX.o.ag,HX.o.am,HX.o.sub⟩);have E3:=aa (show Ex A w W3 from(Ex.below (S:=A) F2.o).chain Z3.o (fun b _ e=>by rw[e];exact HX.o.aP));go_upto_region 13 with fail
 rw[←hW3.o];clear f0 f1 f2 j0 j1 x8 x11 x12 xz;go_wp2_with fail;refine(gB A S P n ae b {p with known:=true,goal:=h} W3 M3.o PW.o HBM.o (fun _=>HGL.o) HHV.o).mono ?_;rintro e w8 ⟨rfl,P8⟩;go_wp2_with fail;exact bodyPost_ret (v:=.nilIface) (by simp[results,Tryz.results46,go_sem]) rfl ⟨rfl,aa ⟨P8.o.mu,P8.o.pr,E3.o.trans P8.o.ext⟩⟩
theorem wS (A S:Nat→Prop) (P n:Nat) (ae:List (List B8)) (b:Bu) (p:Pf_) (w:World) (hm:Mut S w) (hp:PrW A S w P n ae b p) (a:Option Addr) (len cap:Nat) (l:List Int) (hl:Bytes w a len l) (hlen:len≤2000) (hcap:len≤cap) (s h:Nat) (hF:Mx.aE l 3 [(s:Int),(h:Int)] 0 []) (hs:s≠p.s∨p.known=true) (hb:Mx.aL b n=0) (hgl:p.known=true→p.goal≤p.ao) (hh:(p.ao:Int)≤2147483647) (hsd:Mx.bF ⟨(p.s:Int),(p.base:Int),p.queue⟩=0) (G:Nat) (hG:Mx.iQ (p.s:Int) (p.base:Int) p.queue.length l G) :
 Calls Tryz.prog 46 #[.pointer (some ⟨P,0,none⟩),.slice a len cap] w fun e w'=>e=.returned .nilIface∧Hid (PrD A S w w' P n ae (eB b {p with base:=p.base+G,queue:=p.queue.drop G}) (Mx.Mir.aW {p with base:=p.base+G,queue:=p.queue.drop G})):=by
 have HM:=aa hm;have HP:=aa hp;have HL:=aa hl;have HF:=aa hF;clear hF;have HS:=aa hs;clear hs;have HBM:=aa hb;have HGL:=aa hgl;have HHV:=aa hh;have HSD:=aa hsd;have HG:=aa hG;clear hb hgl hh hsd hG;clear hm hp hl;go_enter Tryz.func46,Tryz.ntmps46;go_wp2_with fail;refine(cT a len cap l w HL.o hlen hcap).mono ?_;rintro e w1 ht;obtain⟨a1,c1,a2,c2,rfl,hi1,hE1⟩:∃ a1 c1 a2 c2,e=.returned (.tuple #[.agg #[.int .i64 3,.slice a1 [(s:Int),(h:Int)].length c1,.slice a2 0 c2],.nilIface])∧ay w1 a1 [(s:Int),(h:Int)].length [(s:Int),(h:Int)]∧Below w.heap.size w w1:=by
  rcases ht with ⟨kind',nums',nb',bs',a1,c1,a2,c2,he,hf,hi1,_,_,_,_,_,hE⟩|⟨_,hno,_⟩
  ·obtain⟨rfl,rfl,rfl,rfl⟩:=Mx.aE.one HF.o hf
   exact⟨a1,c1,a2,c2,he,hi1,hE⟩
  ·exact absurd HF.o (hno _ _ _ _)
 have HE1:=aa hE1;have HI1:=aa hi1;clear ht hi1 hE1;obtain⟨W2,hW2⟩:∃ W2:World,Hid (W2=w1.alloc (.cells #[.int .i64 3,.slice a1 2 c1,.slice a2 0 c2] 157)):=⟨_,rfl⟩
 have D2:=beA hW2;have C2:=bxA hW2;have F2:=aa (show Below w.heap.size w W2 from HE1.o.trans (D2.o.mono HE1.o.size));go_upto_region 2 with fail
 rw[←hW2.o];obtain⟨ib,io,hia,hib,hic⟩:=HI1.o.2.2 (by simp);subst hia;have j0:W2.cell? ⟨ib,io,none⟩=some (.int .i64 (s:Int)):=(D2.o.cell (p:=⟨ib,io,none⟩) hib).trans (by simpa using hic 0 (by simp));have j1:W2.cell? ⟨ib,io+1,none⟩=some (.int .i64 (h:Int)):=(D2.o.cell (p:=⟨ib,io+1,none⟩) hib).trans (by simpa using hic 1 (by simp));clear hic;have HP2:=aa (HP.o.later F2.o);have M2:=aa (HM.o.later F2.o);obtain⟨g,oa,on,oc,sa,sn,sc,m,qa,qn,qc,ha,hn,hc,X⟩:=HP2.o;have HX:=aa X;clear X;obtain⟨x0,x1,x2,x3,x4,x5,x6,x7,x8,x9,x10,x11,x12,x13⟩:=HX.o.bx.cells;obtain⟨f0,f1,f2⟩:=C2.o.three;have FV:=aa F2.o;have HLV:=aa (HL.o.later F2.o);clear x0 x1 x2 x3 x4 x5 x6 x7 x12 x13;obtain⟨kn,hkn⟩:∃ kn:Bool,Hid (kn=p.known):=⟨_,rfl⟩
 rw[←hkn.o] at x11;cases kn with
 | true =>
  go_upto_region 5 with fail
  refine phd (aa (HP.o.later FV.o)) (aa (HM.o.later FV.o)) HLV hlen hcap FV HSD HG (by assumption) ?_;intro v8 v9 v22 v23 v24 v25 v26 v27 v28 v29 v30 v31 v32 v33 v34 v35 v36 v37 x' H;go_wp2_with fail;refine(gB A S P n ae b {p with base:=p.base+G,queue:=p.queue.drop G} x' H.o.1 H.o.2.1 HBM.o HGL.o HHV.o).mono ?_;rintro e w8 ⟨rfl,P8⟩;go_wp2_with fail;exact bodyPost_ret (v:=.nilIface) (by simp[results,Tryz.results46,go_sem]) rfl ⟨rfl,aa ⟨P8.o.mu,P8.o.pr,H.o.2.2.trans P8.o.ext⟩⟩
 | false =>
  have hsn:s≠p.s:=by
   rcases HS.o with h9|h9
   ·exact h9
   ·rw[←hkn.o] at h9
    cases h9
  have hde:((s:Int)==(p.s:Int))=false:=by simp;omega
  have hde2:(s==p.s)=false:=by simp;omega
  clear hsn;go_upto_region 5 with fail
  refine phd (aa (HP.o.later FV.o)) (aa (HM.o.later FV.o)) HLV hlen hcap FV HSD HG (by assumption) ?_;intro v8 v9 v22 v23 v24 v25 v26 v27 v28 v29 v30 v31 v32 v33 v34 v35 v36 v37 x' H;go_wp2_with fail;refine(gB A S P n ae b {p with base:=p.base+G,queue:=p.queue.drop G} x' H.o.1 H.o.2.1 HBM.o HGL.o HHV.o).mono ?_;rintro e w8 ⟨rfl,P8⟩;go_wp2_with fail;exact bodyPost_ret (v:=.nilIface) (by simp[results,Tryz.results46,go_sem]) rfl ⟨rfl,aa ⟨P8.o.mu,P8.o.pr,H.o.2.2.trans P8.o.ext⟩⟩
theorem pX (A S:Nat→Prop) (P n:Nat) (ae:List (List B8)) (b:Bu) (p:Pf_) (w:World) (hm:Mut S w) (hp:PrW A S w P n ae b p) (a:Option Addr) (len cap:Nat) (l:List Int) (hl:Bytes w a len l) (hlen:len≤2000) (hcap:len≤cap) (s k:Nat) (hF:Mx.aE l 0 [(s:Int),(k:Int)] 0 []) (hb:Mx.aL b n=0) (hgl:p.known=true→p.goal≤p.ao) (hh:(p.ao:Int)≤2147483647) (hsd:Mx.bF ⟨(p.s:Int),(p.base:Int),p.queue⟩=0) (G:Nat) (hG:Mx.iQ (p.s:Int) (p.base:Int) p.queue.length l G) :
 Calls Tryz.prog 46 #[.pointer (some ⟨P,0,none⟩),.slice a len cap] w fun e w'=>e=.returned .nilIface∧Hid (PrD A S w w' P n ae (eB b {p with base:=p.base+G,queue:=p.queue.drop G}) (Mx.Mir.aW {p with base:=p.base+G,queue:=p.queue.drop G})):=by
 have HM:=aa hm;have HP:=aa hp;have HL:=aa hl;have HF:=aa hF;clear hF;have HBM:=aa hb;have HGL:=aa hgl;have HHV:=aa hh;have HSD:=aa hsd;have HG:=aa hG;clear hb hgl hh hsd hG;clear hm hp hl;go_enter Tryz.func46,Tryz.ntmps46;go_wp2_with fail;refine(cT a len cap l w HL.o hlen hcap).mono ?_;rintro e w1 ht;obtain⟨a1,c1,a2,c2,rfl,hi1,hE1⟩:∃ a1 c1 a2 c2,e=.returned (.tuple #[.agg #[.int .i64 0,.slice a1 [(s:Int),(k:Int)].length c1,.slice a2 0 c2],.nilIface])∧ay w1 a1 [(s:Int),(k:Int)].length [(s:Int),(k:Int)]∧Below w.heap.size w w1:=by
  rcases ht with ⟨kind',nums',nb',bs',a1,c1,a2,c2,he,hf,hi1,_,_,_,_,_,hE⟩|⟨_,hno,_⟩
  ·obtain⟨rfl,rfl,rfl,rfl⟩:=Mx.aE.one HF.o hf
   exact⟨a1,c1,a2,c2,he,hi1,hE⟩
  ·exact absurd HF.o (hno _ _ _ _)
 have HE1:=aa hE1;have HI1:=aa hi1;clear ht hi1 hE1;obtain⟨W2,hW2⟩:∃ W2:World,Hid (W2=w1.alloc (.cells #[.int .i64 0,.slice a1 2 c1,.slice a2 0 c2] 157)):=⟨_,rfl⟩
 have D2:=beA hW2;have C2:=bxA hW2;have F2:=aa (show Below w.heap.size w W2 from HE1.o.trans (D2.o.mono HE1.o.size));go_upto_region 2 with fail
 rw[←hW2.o];have HP2:=aa (HP.o.later F2.o);have M2:=aa (HM.o.later F2.o);obtain⟨g,oa,on,oc,sa,sn,sc,m,qa,qn,qc,ha,hn,hc,X⟩:=HP2.o;have HX:=aa X;clear X;obtain⟨x0,x1,x2,x3,x4,x5,x6,x7,x8,x9,x10,x11,x12,x13⟩:=HX.o.bx.cells;obtain⟨f0,f1,f2⟩:=C2.o.three;have FV:=aa F2.o;have HLV:=aa (HL.o.later F2.o);clear x0 x1 x2 x3 x4 x5 x6 x7 x11 x12 x13;go_upto_region 5 with fail
 refine phd (aa (HP.o.later FV.o)) (aa (HM.o.later FV.o)) HLV hlen hcap FV HSD HG (by assumption) ?_;intro v8 v9 v22 v23 v24 v25 v26 v27 v28 v29 v30 v31 v32 v33 v34 v35 v36 v37 x' H;go_wp2_with fail;refine(gB A S P n ae b {p with base:=p.base+G,queue:=p.queue.drop G} x' H.o.1 H.o.2.1 HBM.o HGL.o HHV.o).mono ?_;rintro e w8 ⟨rfl,P8⟩;go_wp2_with fail;exact bodyPost_ret (v:=.nilIface) (by simp[results,Tryz.results46,go_sem]) rfl ⟨rfl,aa ⟨P8.o.mu,P8.o.pr,H.o.2.2.trans P8.o.ext⟩⟩
end
section
open Go.RowKit
theorem CD {bs:List Int} {nb:Nat} (h1:bs.length=8*nb) (h2:∀ x∈bs,0≤x∧x≤255) (h3:nb≤32):∃ w a,aU w a nb bs:=by
 refine⟨(default:World).alloc (.cells (bs.map (Value.int .u8)).toArray 0),some ⟨(default:World).heap.size,0,none⟩,h1,by rw[aC];omega,h2,fun _=>⟨_,0,rfl,by simp,fun i hi=>?_⟩⟩;have hb:=Bx.new (default:World) (bs.map (Value.int .u8)).toArray 0;rw[Nat.zero_add,hb.cell i];rw[Fu,Ft (by omega)];simp[show i<bs.length by omega]
theorem Mx.aE.facts {l:List Int} {k:Int} {ns:List Int} {nb:Nat} {bs:List Int} (h:Mx.aE l k ns nb bs):l.length≤2000∧0<l.length∧∀ x∈l,0≤x∧x≤255:=by
 obtain⟨h1,h2,h3,rfl⟩:=h;obtain⟨w,a,hb⟩:=CD h2 h3 (dt h1).2.2.2.1;exact⟨wJ hb h1,dM _ _ _ _,eQ hb h1⟩
theorem Mx.eL {k:Int} {ns:List Int} (h:Mx.may k ns 0=0):Mx.aE (Mx.bd k ns 0 []) k ns 0 []:=⟨h,rfl,by simp,rfl⟩
theorem Mx.wk {k:Int} {s:Nat} (h0:0≤k) (h1:k≤15) (hs:(s:Int)≤2147483647):Mx.may k [(s:Int)] 0=0:=by
 refine Mx.lH (by omega) (by simp) fun j hj=>?_
 simp at hj;subst hj;unfold Mx.bw;simp;omega
theorem Mx.rk {k:Int} {s t:Nat} (h0:0≤k) (h1:k≤15) (hs:(s:Int)≤2147483647) (ht:(t:Int)≤2147483647):Mx.may k [(s:Int),(t:Int)] 0=0:=by
 refine Mx.lH (by omega) (by simp) fun j hj=>?_
 simp at hj
 match j,hj with
 | 0, _ => unfold Mx.bw; simp; omega
 | 1, _ => unfold Mx.bw; simp; omega
theorem gw {n:Int} {b:Bu} {ae:List (List B8)} {now:List B8} (h:Mx.gj n b ae now) (p:Pf_):Mx.gj n (eB b p) ae now:=by
 unfold eB;split
 ·exact Mx.yA h
 ·exact h
theorem oQ (p:Pf_):({p with base:=p.base+0,queue:=p.queue.drop 0}:Pf_)=p:=rfl
theorem sB {l:List Int} {k:Int} {ns:List Int} (h:Mx.aE l k ns 0 []) {ses:Int} (hn:¬(k=0∧∃ x,ns=[ses,x])) (base:Int) (qn:Nat):Mx.iQ ses base qn l 0:=.inr ⟨fun x hx=>hn (by
 obtain⟨h1,h2,_⟩:=Mx.aE.one h hx;exact⟨h1,x,h2⟩),rfl⟩
theorem zt (A S:Nat→Prop) (P n c:Nat) (ae:List (List B8)) (now:List B8) (b:Bu) (p:Pf_) (o:Of_) (r:Rc_) (ls:List Lt_) (w:World) (hm:Mut S w) (hp:PrW A S w P n ae b p) (I:Mx.PaI n c ae now b p o r ls) (l:Lt_) (hl:l∈ls) (a:Option Addr) (len cap:Nat) (bs:List Int) (hb:Bytes w a len bs) (hlen:len≤2000) (hcap:len≤cap) (g:Bool) (hmean:Mx.fi false g bs l) :
 Calls Tryz.prog 46 #[.pointer (some ⟨P,0,none⟩),.slice a len cap] w fun e w'=>e=.returned .nilIface∧Hid (∃ b',PrD A S w w' P n ae b' (Mx.Mir.ev [] p o r l).1∧Mx.gj (n:Int) b' ae now):=by
 have hok:=I.bt.2 l hl;have hM:=I.liv.may;have hh:=I.hh;have hs:=I.hs;have hc:=I.hc;have hgl:p.known=true→p.goal≤p.ao:=fun hk=>by rw[I.bt.1.vW hk];exact I.bt.1.to_
 cases l with
 | dF =>
  refine(wR A S P n ae b p w hm hp a len cap bs hb hlen hcap hmean.2).mono ?_;rintro e w' ⟨h1,h2⟩;exact⟨h1,aa ⟨b,h2.o,I.liv⟩⟩
 | opn s => exact absurd hmean.2.1 (by simp)
 | msg s k f => exact absurd hmean.2.1 (by simp)
 | gone s =>
  by_cases h1:s=p.s
  ·have e1:(Mx.Mir.ev [] p o r (.gone s)).1=Mx.Mir.opened [] p:=by simp only[Mx.Mir.ev];rw[if_pos h1]
   rw[e1];refine(wQ A S P n ae b p w hm hp a len cap bs hb hlen hcap s hmean.2.2 h1 (by omega) (by omega)).mono ?_;rintro e w' ⟨h1,h2⟩;exact⟨h1,aa ⟨b,h2.o,I.liv⟩⟩
  ·have e1:(Mx.Mir.ev [] p o r (.gone s)).1=Mx.Mir.aW p:=by simp only[Mx.Mir.ev];rw[if_neg h1]
   rw[e1];refine(wT A S P n ae b p w hm hp a len cap bs hb hlen hcap s hmean.2.2 h1 hM hgl (by omega) I.sd 0 (sB hmean.2.2 (by simp) _ _)).mono ?_;rintro e w' ⟨h1,h2⟩;have h3:=h2.o;rw[oQ] at h3;exact⟨h1,aa ⟨_,h3,gw I.liv p⟩⟩
 | hav s h =>
  by_cases h1:s=p.s∧p.known=false
  ·have e1:(Mx.Mir.ev [] p o r (.hav s h)).1=Mx.Mir.aW {p with known:=true,goal:=h}:=by simp only[Mx.Mir.ev];rw[if_pos h1]
   rw[e1];have h3:=hok.2 h1.1 h1.2;have h4:=I.bt.1.back;refine(zu A S P n ae b p w hm hp a len cap bs hb hlen hcap s h hmean.2.2 h1.1 h1.2 hM (by omega) (by omega)).mono ?_;rintro e w' ⟨h1,h2⟩;exact⟨h1,aa ⟨_,h2.o,gw I.liv _⟩⟩
  ·have e1:(Mx.Mir.ev [] p o r (.hav s h)).1=Mx.Mir.aW p:=by simp only[Mx.Mir.ev];rw[if_neg h1]
   rw[e1];have h2:s≠p.s∨p.known=true:=by
    by_cases h3:s=p.s
    ·right
     cases hk:p.known with
     | true => rfl
     | false => exact absurd ⟨h3, hk⟩ h1
    ·exact .inl h3
   refine(wS A S P n ae b p w hm hp a len cap bs hb hlen hcap s h hmean.2.2 h2 hM hgl (by omega) I.sd 0 (sB hmean.2.2 (by simp) _ _)).mono ?_;rintro e w' ⟨h1,h2⟩;have h3:=h2.o;rw[oQ] at h3;exact⟨h1,aa ⟨_,h3,gw I.liv p⟩⟩
 | ack s k =>
  by_cases h1:s=p.s
  ·have e1:(Mx.Mir.ev [] p o r (.ack s k)).1=Mx.Mir.aW {p with base:=p.base+Mx.Mir.eI p.base k p.queue.length,queue:=p.queue.drop (Mx.Mir.eI p.base k p.queue.length)}:=by simp only[Mx.Mir.ev];rw[if_pos h1]
   rw[e1];refine(pX A S P n ae b p w hm hp a len cap bs hb hlen hcap s k hmean.2.2 hM hgl (by omega) I.sd (Mx.Mir.eI p.base k p.queue.length) (.inl ⟨(k:Int),by rw[←h1];exact hmean.2.2,(Mx.CG _ _ _).symm⟩)).mono ?_;rintro e w' ⟨h1,h2⟩;exact⟨h1,aa ⟨_,h2.o,gw I.liv _⟩⟩
  ·have e1:(Mx.Mir.ev [] p o r (.ack s k)).1=Mx.Mir.aW p:=by simp only[Mx.Mir.ev];rw[if_neg h1]
   rw[e1];refine(pX A S P n ae b p w hm hp a len cap bs hb hlen hcap s k hmean.2.2 hM hgl (by omega) I.sd 0 (sB hmean.2.2 (by simp;omega) _ _)).mono ?_;rintro e w' ⟨h1,h2⟩;have h3:=h2.o;rw[oQ] at h3;exact⟨h1,aa ⟨_,h3,gw I.liv p⟩⟩
def j8 (S:Nat→Prop) (w:World) (v:Value):Option Lt_→Prop
 | none => v = .slice none 0 0
 | some l => ∃ a c bs, v = .slice (some a) (List.length bs) c ∧ Byo S w (some a) bs.length bs ∧ bs.length ≤ c ∧ Mx.fi false false bs l
theorem j8.of {S:Nat→Prop} {w:World} {v:Value} {l:Lt_} {bs:List Int} (h:cU S w v (some bs)) (hm:Mx.fi false false bs l):j8 S w v (some l):=by
 obtain⟨a,c,h1,h2,h3⟩:=h;exact⟨a,c,bs,h1,h2,h3,hm⟩
theorem OtW.fg {B S:Nat→Prop} {w:World} {O n:Nat} {ae:List (List B8)} {o:Of_} (h:OtW B S w O n ae o):o.aN=decide (o.want=2147483647):=by
 obtain⟨g,na,nn,nc,ha,hn,hc,X⟩:=h;exact X.r.fg
section
variable {n c:Nat} {ae:List (List B8)} {now:List B8} {b:Bu} {p:Pf_} {o:Of_} {r:Rc_} {ls:List Lt_}
theorem CR {u:Mx.Upd} {j:Nat}:((u.msgs.take j).map Fr.ak).flatten.length≤u.qs.length+2:=by
 have h1:=u.pQ;have h2:u.msgs=u.msgs.take j++u.msgs.drop j:=(List.take_append_drop j _).symm;rw[h2,List.map_append,List.flatten_append] at h1;have h3:=congrArg List.length h1;rw[Fy,u.gO] at h3;omega
end
theorem zg (B S:Nat→Prop) (O n c:Nat) (ae:List (List B8)) (now:List B8) (b:Bu) (p:Pf_) (o:Of_) (r:Rc_) (ls:List Lt_) (I:Mx.PaI n c ae now b p o r ls) (hf:o.aN=false) (f:Fr) (hms:r.ms[r.j]?=some f) (w:World) (hm:Mut S w) (ho:OtW B S w O n ae o) (a1:Option Addr) (n1 c1:Nat) (a2:Option Addr) (c2:Nat) (hi:ay w a1 n1 f.ak) (hk:aU w a2 f.nb f.bs) (hc2:f.nb≤c2) :
 Calls Tryz.prog 119 #[.pointer (some ⟨O,0,none⟩),.agg #[.int .i64 f.kind,.slice a1 n1 c1,.slice a2 f.nb c2]] w fun e w'=>e=.returned .nilIface∧Hid (OtD B S w w' O n ae (if r.j+1=r.ms.length then {o with back:=r.to_,got:=[],had:=r.eA} else {o with got:=o.got++[f]})):=by
 have hjl:r.j<r.ms.length:=(FE.1 hms).1;have hne:r.ms≠[]:=by intro e;rw[e] at hjl;simp at hjl
 have hG:=I.bt.1.vM hne;have hto:=I.bt.1.to_;have hlt:=I.bt.1.later hne;have hbk:=I.bt.1.before hjl;have hgot:=I.bt.1.got hf;rw[if_neg (by omega)] at hgot;have hhad:=I.bt.1.had hf;rw[if_neg (by omega)] at hhad;have hh:=I.hh;have hs:=I.hs;have hc:=I.hc;have hses:=I.bt.1.ses;obtain⟨u,base,fin,g1,g2,g3,g4,g5,g6,g7,g8,g9,g10,g11,g12,g13,g14⟩:=hG;have hin:=Mx.Upd.uP (u:=u) (f:=f) (by rw[←g1];exact FN hms);have hpos:=Mx.wq hin.1;have h9:=Mx.jI hin.1;have hgl:(en o).length≤u.qs.length+2:=by unfold en;rw[hgot,g1];exact CR
 have hn1:n1=f.ak.length:=hi.1.symm;by_cases hj:r.j+1=r.ms.length
 ·rw[if_pos hj]
  obtain⟨k1,k2,k3⟩:=Mx.Upd.pO (u:=u) (i:=r.j) (f:=f) (by rw[←g1];exact hms) (by rw[←g1];exact hj);rw[k1];have hall:en o++f.ak=u.from_::(r.to_:Int)::(u.qs.map fun q=>(Mx.cV q).toNat).map (fun x:Nat=>(x:Int)):=by
   have h1:=u.pQ;have h2:u.msgs=u.msgs.take r.j++[f]:=by
    have h3:=List.take_append_drop r.j u.msgs;rw[←g1] at h3 ⊢;rw[List.drop_eq_getElem_cons hjl,List.drop_of_length_le (by omega)] at h3;rw[Ft hjl] at hms;rw[FC hms] at h3;exact h3.symm
   unfold en;rw[hgot,g1];have h5:((u.msgs.take r.j).map Fr.ak).flatten++f.ak=u.ak:=by
    rw[←h1]
    conv=>rhs;rw[h2]
    rw[List.map_append,List.flatten_append];simp
   rw[h5];unfold Mx.Upd.ak;rw[g4,List.map_map];congr 2
   refine List.map_congr_left fun q hq=>?_
   have:=(Mx.lX (g2 q hq)).1;show _=((Mx.cV q).toNat:Int)
   omega
  have hdec:Mx.fU ((u.qs.map fun q=>(Mx.cV q).toNat).map (fun x:Nat=>(x:Int))) (Mx.bJ u.qs)=some u.qs:=by
   rw[List.map_map,←Mx.uB u.qs g2];congr 1
   refine List.map_congr_left fun q hq=>?_
   have:=(Mx.lX (g2 q hq)).1;show((Mx.cV q).toNat:Int)=_
   omega
  have hbl:=Mx.si u.qs;refine(wH B S O n ae o w hm ho a1 n1 c1 a2 f.nb c2 f.ak hi (by omega) (by omega) (by omega) (Mx.bJ u.qs) (aU.bl (by rw[←k3];exact hk) k2.symm) hc2 (by omega) u.from_ r.to_ _ u.qs hall hdec (fun x hx=>?_) (by omega) I.n1 I.n2 base fin ?_ g12 (by rw[hhad];exact g6) g7 (by rw[hhad];exact g8) g9 (by rw[hhad];exact g10) (by omega) (by omega) (by omega)).mono ?_
  ·obtain⟨q,hq,rfl⟩:=List.mem_map.1 hx
   have:=Mx.lX (g2 q hq);omega
  ·rcases g5 with h|⟨h1,h2,h3⟩
   ·exact .inl h
   ·exact .inr ⟨by rw[hbk];exact h1,h2,by rw[hbk];exact h3⟩
  ·rintro e w' ⟨h1,h2⟩
   refine⟨h1,?_⟩;have h3:=h2.o;rw[hhad,←g11] at h3;exact aa h3
 ·rw[if_neg hj]
  obtain⟨k1,k2,k3⟩:=Mx.Upd.pR (u:=u) (i:=r.j) (f:=f) (by rw[←g1];exact hms) (by rw[←g1];omega);rw[k1];refine(wI B S O n ae o w hm ho a1 n1 c1 a2 f.nb c2 f.ak hi (by omega) (by omega) (by omega) f.bs).mono ?_;rintro e w' ⟨h1,h2⟩;refine⟨h1,?_⟩;have h3:=h2.o;have e1:(⟨0,f.ak,f.nb,f.bs⟩:Fr)=f:=by rw[←k1]
  rw[e1] at h3;exact aa h3
theorem yV (B S:Nat→Prop) (O n c:Nat) (ae:List (List B8)) (now:List B8) (b:Bu) (p:Pf_) (o:Of_) (r:Rc_) (ls:List Lt_) (w:World) (hm:Mut S w) (ho:OtW B S w O n ae o) (I:Mx.PaI n c ae now b p o r ls) (l:Lt_) (hl:l∈ls) (a:Option Addr) (len cap:Nat) (bs:List Int) (hb:Bytes w a len bs) (hlen:len≤2000) (hcap:len≤cap) (g:Bool) (hmean:Mx.fi true g bs l) :
 Calls Tryz.prog 47 #[.pointer (some ⟨O,0,none⟩),.slice a len cap] w fun e w'=>∃ v,e=.returned (.tuple #[v,.nilIface])∧Hid (OtD B S w w' O n ae (Mx.Mir.ev [] p o r l).2.1)∧Hid (j8 S w' v (Mx.Mir.ev [] p o r l).2.2.2):=by
 have hok:=I.bt.2 l hl;have hh:=I.hh;have hs:=I.hs;have hc:=I.hc;have hses:=I.bt.1.ses;have hback:=I.bt.1.back;have hwt:(o.want:Int)≤2147483647:=by
  cases hf:o.aN with
  | true =>
   have h1:=ho.fg;rw[hf] at h1;have h2:=of_decide_eq_true h1.symm;omega
  | false =>
   have h1:=I.bt.1.want hf;have h2:=I.hb;have h3:=I.bt.1.jl;omega
 cases l with
 | dF =>
  refine(wD B S O n ae o w hm ho a len cap bs hb hlen hcap hmean.2).mono ?_;rintro e w' ⟨v,h1,h2,h3⟩;exact⟨v,h1,h2,h3⟩
 | hav s h => exact absurd hmean.2.1 (by simp)
 | gone s => exact absurd hmean.2.1 (by simp)
 | ack s k => exact absurd hmean.2.1 (by simp)
 | opn s =>
  have hsp:s≤p.s:=hok;refine(wE B S O n ae o w hm ho a len cap bs hb hlen hcap s hmean.2.2 (by omega) (by omega)).mono ?_;rintro e w' ⟨v,h1,h2,h3⟩;refine⟨v,h1,?_,?_⟩
  ·have e1:(Mx.Mir.ev [] p o r (.opn s)).2.1=ep o s:=by
    simp only[Mx.Mir.ev];unfold ep;by_cases k1:s<o.sb
    ·rw[if_pos k1,if_neg (by omega)]
    ·rw[if_neg k1]
     by_cases k2:o.sb<s
     ·rw[if_pos k2,if_pos k2]
      rfl
     ·rw[if_neg k2,if_neg k2]
      split<;>rfl
   rw[e1];exact h2
  ·have h4:=h3.o
   unfold eM at h4;simp only[Mx.Mir.ev];by_cases k1:s<o.sb
   ·rw[if_pos k1] at h4 ⊢
    exact aa h4
   ·rw[if_neg k1] at h4 ⊢
    by_cases k2:o.sb<s
    ·rw[if_pos k2] at h4 ⊢
     exact aa (j8.of h4 ⟨rfl,rfl,Mx.eL (Mx.rk (by omega) (by omega) (by omega) (by omega))⟩)
    ·rw[if_neg k2] at h4 ⊢
     have e2:s=o.sb:=by omega
     by_cases k3:o.aN=true
     ·rw[if_pos k3] at h4 ⊢
      rw[e2] at h4;exact aa (j8.of h4 ⟨rfl,rfl,Mx.eL (Mx.wk (by omega) (by omega) (by omega))⟩)
     ·rw[if_neg k3] at h4 ⊢
      rw[e2] at h4;exact aa (j8.of h4 ⟨rfl,rfl,Mx.eL (Mx.rk (by omega) (by omega) (by omega) (by omega))⟩)
 | msg s k f =>
  have hF:=hmean.2.2;have go:∀ (o1:Of_) (ans:Option (List Int)),(∀ W:World,Mut S W→OtW B S W O n ae o→Bytes W a len bs→Calls Tryz.prog 87 #[.pointer (some ⟨O,0,none⟩),.slice a len cap] W fun e w'=>∃ v,e=.returned (.tuple #[v,.nilIface])∧Hid (OtD B S W w' O n ae o1)∧Hid (cU S w' v ans))→Calls Tryz.prog 47 #[.pointer (some ⟨O,0,none⟩),.slice a len cap] w fun e w'=>∃ v,e=.returned (.tuple #[v,.nilIface])∧Hid (OtD B S w w' O n ae o1)∧Hid (cU S w' v ans) :=
   fun o1 ans hr=>yW B S O n ae o w hm ho a len cap bs hb hlen hcap _ f.nb f.bs hF.1 o1 ans hr
  unfold Mx.Mir.ev;by_cases h1:s≠o.sb
  ·simp only[if_pos h1]
   refine(go o none fun W k1 k2 k3=>ze B S O n ae o W k1 k2 a len cap bs k3 hlen hcap (by omega) hwt (fun x kd nm nb' bs' hx=>?_)).mono ?_
   ·have h2:=(Mx.aE.one hF.1 hx.1).2.1
    simp only[List.cons.injEq] at h2;exact h1 (by omega)
   ·rintro e w' ⟨v,h1,h2,h3⟩
    exact⟨v,h1,h2,h3⟩
  ·simp only[if_neg h1]
   have e1:s=o.sb:=Decidable.not_not.mp h1;subst e1;by_cases h2:o.aN=true
   ·simp only[if_pos h2]
    refine(go o _ fun W k1 k2 k3=>tQ B S O n ae o W k1 k2 a len cap bs k3 hlen hcap (by omega) hwt h2 _ _ _ _ _ hF).mono ?_;rintro e w' ⟨v,h1,h2,h3⟩;exact⟨v,h1,h2,aa (j8.of h3.o ⟨rfl,rfl,Mx.eL (Mx.wk (by omega) (by omega) (by omega))⟩)⟩
   ·simp only[if_neg h2]
    have e2:o.aN=false:=by simpa using h2
    by_cases h3:k≠o.want
    ·simp only[if_pos h3]
     refine(go o _ fun W k1 k2 k3=>Bp B S O n ae o W k1 k2 a len cap bs k3 hlen hcap (by omega) hwt e2 _ _ _ _ _ hF (by omega)).mono ?_;rintro e w' ⟨v,h1,h2,h3⟩;exact⟨v,h1,h2,aa (j8.of h3.o ⟨rfl,rfl,Mx.eL (Mx.rk (by omega) (by omega) (by omega) (by omega))⟩)⟩
    ·simp only[if_neg h3]
     have e3:k=o.want:=Decidable.not_not.mp h3;subst e3;obtain⟨hms,hj⟩:=Mx.Mir.wanted I.bt.1 e2 hok;have hw:=I.bt.1.want e2;have hb4:=I.hb;refine(go _ _ fun W k1 k2 k3=>zd B S O n ae o W k1 k2 a len cap bs k3 hlen hcap (by omega) hwt f.kind f.ak f.nb f.bs hF (by omega) (if r.j+1=r.ms.length then {o with back:=r.to_,got:=[],had:=r.eA} else {o with got:=o.got++[f]}) ?_ (fun W1 a1 n1 c1 a2 c2 q1 q2 q3 q4 q5 q6=>zg B S O n c ae now b p o r ls I e2 f hms W1 q1 q2 a1 n1 c1 a2 c2 q3 q4 q6)).mono ?_
     ·split
      ·exact⟨rfl,rfl,e2⟩
      ·exact⟨rfl,rfl,e2⟩
     ·rintro e w' ⟨v,h1,h2,h3⟩
      have e4:((o.want:Int)+1)=((o.want+1:Nat):Int):=by omega
      have h5:=h3.o;rw[e4] at h5;have h6:=j8.of (l:=.ack o.sb (o.want+1)) h5 ⟨rfl,rfl,Mx.eL (Mx.rk (by omega) (by omega) (by omega) (by omega))⟩;by_cases h4:r.j+1=r.ms.length
      ·simp only[if_pos h4] at h2 ⊢
       exact⟨v,h1,h2,aa h6⟩
      ·simp only[if_neg h4] at h2 ⊢
       exact⟨v,h1,h2,aa h6⟩
end
end Go.Proofs.YtbicgjafjjihdaaGreat
