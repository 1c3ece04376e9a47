/- Part. -/
import Derived.Test.YtbicgjafjjihdaaGreatDoorZ22
import Derived.Test.YtbicgjafjjihdaaGreatDoorZ23
set_option maxHeartbeats 16000000
set_option maxRecDepth 100000
namespace Go.Proofs.YtbicgjafjjihdaaGreatDoor
section
open Go.RowKit Go.ChangeMaps
theorem ay.ofRow {w:World} {a:Option Addr} {n:Nat} {l:List Int} (hl:l.length=n) (h:cA w a n 1 (l.map (Value.int .i64))):ay w a n l:=by
 refine⟨hl,h.2.1,fun hn=>?_⟩;obtain⟨b,off,ha,hlt,hc⟩:=h.2.2 hn;refine⟨b,off,ha,hlt,fun i hi=>hc i _ ?_⟩;rw[List.getElem?_map,Ga,F0 (by omega)];rfl
theorem wJ (B S:Nat→Prop) (O n:Nat) (ae:List (List B8)) (o:Of_) (w:World) (hm:Mut S w) (ho:OtW B S w O n ae o) (a1:Option Addr) (n1 c1:Nat) (a2:Option Addr) (nb c2:Nat) (al:List Int) (hi:ay w a1 n1 al) (hg4:(eu o).length≤400) (hn4:n1≤400) (hpos:0<(eu o).length+n1) (bs:List Int)  :
 Calls Tryz.prog 128 #[.pointer (some ⟨O,0,none⟩),.agg #[.int .i64 0,.slice a1 n1 c1,.slice a2 nb c2]] w fun e w'=>e=.returned .nilIface∧Hid (OtD B S w w' O n ae {o with got:=o.got++[⟨0,al,nb,bs⟩]}):=by
 obtain⟨W0,hW0⟩:∃ W0:World,Hid (W0=w.alloc (.cells #[.int .i64 0,.slice a1 n1 c1,.slice a2 nb c2] 173)):=⟨_,rfl⟩
 have B0:=bxA hW0;have D0:=beA hW0;have HM:=aa (hm.later D0.o);have HI:=aa (hi.later D0.o);have HO:=aa (ho.later D0.o);obtain⟨g,na,nn,nc,ha,hn,hc,X⟩:=HO.o;have HX:=aa X;have hnl:(eu o).length=nn:=X.r.nu.1.1;have HNL:=aa hnl;rw[hnl] at hg4 hpos;clear hm hi ho X hnl;obtain⟨W1,hW1⟩:∃ W1:World,Hid (W1=(W0.alloc (.cells #[.slice na nn nc,.slice a1 n1 c1] 47)).drew):=⟨_,rfl⟩
 have D1:=aa (show Gq W0 W1 by rw[hW1.o];exact(af _ _).drew);have C1:=aa (show Bx W1 W0.heap.size #[.slice na nn nc,.slice a1 n1 c1] 47 by rw[hW1.o];exact Bx.dj W0 _ _);obtain⟨b0,b1,b2⟩:=B0.o.three;obtain⟨x0,x1,x2,x3,x4,x5⟩:=HX.o.bx.cells;clear b0 b2 x0 x1 x2 x3 x5;have hBW:w.heap.size<W0.heap.size:=B0.o.lt;have hOW:O<W0.heap.size:=Bx.lt HX.o.bx;have I1:=aa (HX.o.r.nu.1.later D1.o);have J1:=aa (HI.o.later D1.o);have HC:=aa (pq W0.heap.size na nn nc (eu o) a1 n1 c1 al W1 C1.o I1.o J1.o hpos hg4 hn4);rw[hW1.o] at HC;go_enter Tryz.func128,Tryz.ntmps128;go_upto_region 1 with fail
 rw[←hW0.o];go_region_held3 (fun w'=>w'.cell? ⟨O,4,none⟩=some (.slice na nn nc)∧w'.cell? ⟨w.heap.size,1,none⟩=some (.slice a1 n1 c1))
  (first
    | with_reducible exact ⟨x4, b1⟩
    |(simp only[an];with_reducible exact⟨x4,b1⟩)
    | with_reducible exact ⟨y4, yb1⟩
    |(simp only[an,ao hBW,ao hOW];with_reducible exact⟨x4,b1⟩))
  (first
    |(go_at_call 149;(with_reducible refine HC.o.mono ?_);rintro e w2 ⟨a3,c3,rfl,O2,E2⟩;rw[←hW1.o] at O2 E2;have D2:=aa (show Gq W0 w2 from D1.o.trans (E2.o.mono D1.o.size));have y4:=(D2.o.cell (p:=⟨O,4,none⟩) hOW).trans x4;have yb1:=(D2.o.cell (p:=⟨w.heap.size,1,none⟩) hBW).trans b1))
 all_goals
  clear x4 b1 y4 yb1 HC;have B2:=aa (B0.o.later D2.o B0.o.lt);have X2:=aa (HX.o.later D2.o);have M2:=aa (HM.o.later D2.o);obtain⟨b0,b1,b2⟩:=B2.o.three;obtain⟨x0,x1,x2,x3,x4,x5⟩:=X2.o.bx.cells;have xz:=Bx.frozen X2.o.bx;have I2:=aa (show Ino S w2 a3 (nn+n1) (eu o++al)∧nn+n1≤c3∧(∀ q,a3=some q→W0.heap.size≤q.block) from by
   obtain⟨a',c',hv,hcc,hr,hp⟩:=aA O2.o;have hll:(eu o++al).length=nn+n1:=by rw[Ge,HNL.o,HI.o.1]
   rw[hll] at hv hr hcc;cases hv
   exact⟨⟨ay.ofRow (by rw[hll]) hr,Av.new HM.o D1.o.size hp⟩,hcc,fun q hq=>Gn D1.o.size (hp q hq)⟩)
  obtain⟨W3,hW3⟩:∃ W3:World,Hid (W3=w2.setCell ⟨O,4,none⟩ (.slice a3 (nn+n1) c3)):=⟨_,rfl⟩
  have G3:=aa (show w2.grownBy W3 (some O) by rw[hW3.o];exact ak (aq _ _) _ _);have Z3:=aa (Ex.one G3.o);have X3:=aa (show Obx W3 O g n (o.sb:Int) (o.want:Int) a3 (nn+n1) c3 ha hn hc by rw[hW3.o];exact Bx.set X2.o.bx 4 _);have M3:=aa (M2.o.dZ Z3.o X3.o fW);have hSO:∀ b,b=O→S b:=fun b e=>by rw[e];exact X2.o.sub _ X2.o.aO
  have R3:=aa (show OtR S W3 n ae {o with got:=o.got++[⟨0,al,nb,bs⟩]} g a3 (nn+n1) c3 ha hn hc from by
   have hr:=X2.o.r.ext Z3.o hSO (fun e=>X2.o.ne e.symm);refine⟨hr.nd,?_,I2.o.2.1,hr.hd,hr.hc,hr.fg⟩;have h1:eu {o with got:=o.got++[⟨0,al,nb,bs⟩]}=eu o++al:=by unfold eu;simp
   rw[h1];exact I2.o.1.ext (Z3.o.mono (fun b _ e=>hSO b e)))
  have E3:=aa (show Ex B w W3 from((Ex.below (S:=B) D0.o).chain (Ex.below (S:=B) D2.o) (fun _ _ h=>h)).chain Z3.o (fun b _ e=>by rw[e];exact X2.o.aO));go_wp2_with fail;rw[←hW3.o];exact bodyPost_ret (v:=.nilIface) (by simp[results,Tryz.results128,go_sem]) rfl ⟨rfl,aa ⟨M3.o,⟨g,a3,nn+n1,c3,ha,hn,hc,X3.o,R3.o,X2.o.aO,X2.o.ag,X2.o.sub⟩,E3.o⟩⟩
theorem wI (B S:Nat→Prop) (O n:Nat) (ae:List (List B8)) (o:Of_) (w:World) (hm:Mut S w) (ho:OtW B S w O n ae o) (a1:Option Addr) (n1 c1:Nat) (a2:Option Addr) (nb c2:Nat) (al:List Int) (hi:ay w a1 n1 al) (hg4:(eu o).length≤400) (hn4:n1≤400) (hpos:0<(eu o).length+n1) (bl8:List B8) (hb8:BL w a2 nb bl8) (hbc:nb≤c2) (hnb:nb≤1000) (frm:Int) (to_:Nat) (Xs:List Nat) (qs:List Pk) (hall:eu o++al=frm::(to_:Int)::Xs.map (fun x:Nat=>(x:Int))) (hdec:Mx.fV (Xs.map (fun x:Nat=>(x:Int))) bl8=some qs) (hXs:∀ x∈Xs,x<4096) (ht:o.back<to_) (hn1:1≤n) (hn32:n≤32) (base fin:List B8) (hbase:(frm=0∧base=List.replicate n zB)∨(frm=(o.back:Int)∧frm≠0∧ae[o.back]?=some base)) (hbln:base.length=n) (hh:Mx.bT o.had=0) (hE:Mx.qE n qs=0) (hms:Mx.dJ qs base o.had=[]) (hfin:ae[to_]?=some fin) (hfl:Mx.aD base (Mx.aI qs base o.had)=fin) (hqn:qs.length≤1000) (hto:(to_:Int)≤2147483647) (hsb:(o.sb:Int)≤2147483647) :
 Calls Tryz.prog 128 #[.pointer (some ⟨O,0,none⟩),.agg #[.int .i64 1,.slice a1 n1 c1,.slice a2 nb c2]] w fun e w'=>e=.returned .nilIface∧Hid (OtD B S w w' O n ae {o with back:=to_,had:=Mx.bI o.had qs,got:=[]}):=by
 obtain⟨W0,hW0⟩:∃ W0:World,Hid (W0=w.alloc (.cells #[.int .i64 1,.slice a1 n1 c1,.slice a2 nb c2] 173)):=⟨_,rfl⟩
 have B0:=bxA hW0;have D0:=beA hW0;have HM:=aa (hm.later D0.o);have HI:=aa (hi.later D0.o);have HO:=aa (ho.later D0.o);obtain⟨g,na,nn,nc,ha,hn,hc,X⟩:=HO.o;have HX:=aa X;have hnl:(eu o).length=nn:=X.r.nu.1.1;have HNL:=aa hnl;rw[hnl] at hg4 hpos;have HB8:=aa (hb8.later D0.o);have HALL:=aa hall;have HDEC:=aa hdec;have HXS:=aa hXs;have HBASE:=aa hbase;have HBLN:=aa hbln;have HH:=aa hh;have HE:=aa hE;have HMS:=aa hms;have HFIN:=aa hfin;have HFL:=aa hfl;clear hb8 hall hdec hXs hbase hbln hh hE hms hfin hfl;clear hm hi ho X hnl;obtain⟨W1,hW1⟩:∃ W1:World,Hid (W1=(W0.alloc (.cells #[.slice na nn nc,.slice a1 n1 c1] 47)).drew):=⟨_,rfl⟩
 have D1:=aa (show Gq W0 W1 by rw[hW1.o];exact(af _ _).drew);have C1:=aa (show Bx W1 W0.heap.size #[.slice na nn nc,.slice a1 n1 c1] 47 by rw[hW1.o];exact Bx.dj W0 _ _);obtain⟨b0,b1,b2⟩:=B0.o.three;obtain⟨x0,x1,x2,x3,x4,x5⟩:=HX.o.bx.cells;clear b0 b2 x0 x1 x2 x3 x5;have hBW:w.heap.size<W0.heap.size:=B0.o.lt;have hOW:O<W0.heap.size:=Bx.lt HX.o.bx;have I1:=aa (HX.o.r.nu.1.later D1.o);have J1:=aa (HI.o.later D1.o);have HC:=aa (pq W0.heap.size na nn nc (eu o) a1 n1 c1 al W1 C1.o I1.o J1.o hpos hg4 hn4);rw[hW1.o] at HC;go_enter Tryz.func128,Tryz.ntmps128;go_upto_region 1 with fail
 rw[←hW0.o];go_region_held3 (fun w'=>w'.cell? ⟨O,4,none⟩=some (.slice na nn nc)∧w'.cell? ⟨w.heap.size,1,none⟩=some (.slice a1 n1 c1))
  (first
    | with_reducible exact ⟨x4, b1⟩
    |(simp only[an];with_reducible exact⟨x4,b1⟩)
    | with_reducible exact ⟨y4, yb1⟩
    |(simp only[an,ao hBW,ao hOW];with_reducible exact⟨x4,b1⟩))
  (first
    |(go_at_call 149;(with_reducible refine HC.o.mono ?_);rintro e w2 ⟨a3,c3,rfl,O2,E2⟩;rw[←hW1.o] at O2 E2;have D2:=aa (show Gq W0 w2 from D1.o.trans (E2.o.mono D1.o.size));have y4:=(D2.o.cell (p:=⟨O,4,none⟩) hOW).trans x4;have yb1:=(D2.o.cell (p:=⟨w.heap.size,1,none⟩) hBW).trans b1))
 all_goals
  clear x4 b1 y4 yb1 HC;have B2:=aa (B0.o.later D2.o B0.o.lt);have X2:=aa (HX.o.later D2.o);have M2:=aa (HM.o.later D2.o);obtain⟨b0,b1,b2⟩:=B2.o.three;obtain⟨x0,x1,x2,x3,x4,x5⟩:=X2.o.bx.cells;have xz:=Bx.frozen X2.o.bx;have I2:=aa (show Ino S w2 a3 (nn+n1) (eu o++al)∧nn+n1≤c3∧(∀ q,a3=some q→W0.heap.size≤q.block) from by
   obtain⟨a',c',hv,hcc,hr,hp⟩:=aA O2.o;have hll:(eu o++al).length=nn+n1:=by rw[Ge,HNL.o,HI.o.1]
   rw[hll] at hv hr hcc;cases hv
   exact⟨⟨ay.ofRow (by rw[hll]) hr,Av.new HM.o D1.o.size hp⟩,hcc,fun q hq=>Gn D1.o.size (hp q hq)⟩)
  clear xz x0 x1 x2 x3 x4 x5;go_upto_region 5 with fail
  go_wp2_with fail;have HI2:=aa (show ay w2 a3 (nn+n1) (frm::(to_:Int)::Xs.map (fun x:Nat=>(x:Int))) by rw[←HALL.o];exact I2.o.1.1);refine(uo a3 (nn+n1) c3 frm (to_:Int) Xs a2 nb c2 bl8 qs w2 HI2.o I2.o.2.1 (HB8.o.later D2.o) hbc HDEC.o HXS.o (by omega) hnb).mono ?_;rintro e w3 ⟨qa,qn,qc,rfl,Q3,E3⟩;have HQN:=aa (show QL w3 qa qn qs∧qn=qs.length from by
   obtain⟨a',c',hv,_,hr,_⟩:=aA Q3.o;cases hv
   exact⟨⟨rfl,hr⟩,rfl⟩)
  obtain⟨W4,hW4⟩:∃ W4:World,Hid (W4=w3.alloc (.cells #[.int .i64 frm,.int .i64 (to_:Int),.slice qa qn qc] 213)):=⟨_,rfl⟩
  have U4:=bxA hW4;have D4:=beA hW4;have F4:=aa (show Gq w2 W4 from E3.o.trans (D4.o.mono E3.o.size));have X4:=aa (X2.o.later F4.o);have M4:=aa (M2.o.later F4.o);clear b0 b1 b2;go_upto_region 6 with fail
  rw[←hW4.o];go_upto_region 8 with fail
  obtain⟨u0,u1,u2⟩:=U4.o.three;go_wp2_with fail;refine(wD B S O n ae o W4 M4.o ⟨g,na,nn,nc,ha,hn,hc,X4.o⟩ frm to_ qa qn qc qs (HQN.o.1.later D4.o) ht hn1 hn32 base fin HBASE.o HBLN.o HH.o HE.o HMS.o HFIN.o HFL.o (by rw[HQN.o.2];exact hqn) hto hsb).mono ?_;rintro e w5 ⟨rfl,P5⟩;clear u0 u1 u2;obtain⟨g5,na5,nn5,nc5,ha5,hn5,hc5,X5⟩:=P5.o.ot;have HX5:=aa X5;obtain⟨x0,x1,x2,x3,x4,x5⟩:=X5.bx.cells;have xz:=Bx.frozen X5.bx;clear X5 x0 x1 x2 x3 x5;obtain⟨W6,hW6⟩:∃ W6:World,Hid (W6=w5.setCell ⟨O,4,none⟩ (.slice none 0 0)):=⟨_,rfl⟩
  have G6:=aa (show w5.grownBy W6 (some O) by rw[hW6.o];exact ak (aq _ _) _ _);have Z6:=aa (Ex.one G6.o);have X6:=aa (show Obx W6 O g5 n (o.sb:Int) (o.want:Int) none 0 0 ha5 hn5 hc5 by rw[hW6.o];exact Bx.set HX5.o.bx 4 _);have M6:=aa (P5.o.mu.dZ Z6.o X6.o fW);have hSO:∀ b,b=O→S b:=fun b e=>by rw[e];exact HX5.o.sub _ HX5.o.aO
  have R6:=aa (show OtR S W6 n ae {o with back:=to_,had:=Mx.bI o.had qs,got:=[]} g5 none 0 0 ha5 hn5 hc5 from by
   have hr:=HX5.o.r.ext Z6.o hSO (fun e=>HX5.o.ne e.symm);exact⟨hr.nd,Ino.nil S W6,Gi _,hr.hd,hr.hc,hr.fg⟩)
  have E6:=aa (show Ex B w W6 from((((Ex.below (S:=B) D0.o).chain (Ex.below (S:=B) D2.o) (fun _ _ h=>h)).chain (Ex.below (S:=B) F4.o) (fun _ _ h=>h)).chain P5.o.ext (fun _ _ h=>h)).chain Z6.o (fun b _ e=>by rw[e];exact HX5.o.aO));go_wp2_with fail;rw[←hW6.o];exact bodyPost_ret (v:=.nilIface) (by simp[results,Tryz.results128,go_sem]) rfl ⟨rfl,aa ⟨M6.o,⟨g5,none,0,0,ha5,hn5,hc5,X6.o,R6.o,HX5.o.aO,HX5.o.ag,HX5.o.sub⟩,E6.o⟩⟩
end
section
open Go.RowKit Go.ChangeMaps
theorem Mx.mR {l:List Int} {s s' x x' kd kd':Int} {nm nm':List Int} {nb nb':Nat} {bs bs':List Int} (h:Mx.Msg l s x kd nm nb bs) (h':Mx.Msg l s' x' kd' nm' nb' bs'):s=s'∧x=x'∧kd=kd'∧nm=nm'∧nb=nb'∧bs=bs':=by
 obtain⟨_,h2,h3,h4⟩:=Mx.aE.one h.1 h'.1;simp at h2;exact⟨h2.1,h2.2.1,h2.2.2.1,h2.2.2.2,h3,h4⟩
theorem zg (B S:Nat→Prop) (O n:Nat) (ae:List (List B8)) (o:Of_) (w:World) (hm:Mut S w) (ho:OtW B S w O n ae o) (a:Option Addr) (len cap:Nat) (l:List Int) (hl:Bytes w a len l) (hlen:len≤2000) (hcap:len≤cap) (hsb:(o.sb:Int)≤2147483647) (hwt:(o.want:Int)≤2147483647) (hno:∀ x kd nm nb bs,¬Mx.Msg l (o.sb:Int) x kd nm nb bs) :
 Calls Tryz.prog 93 #[.pointer (some ⟨O,0,none⟩),.slice a len cap] w fun e w'=>∃ v,e=.returned (.tuple #[v,.nilIface])∧Hid (OtD B S w w' O n ae o)∧Hid (cU S w' v none):=by
 have HM:=aa hm;have HO:=aa ho;have HL:=aa hl;obtain⟨g,na,nn,nc,ha,hn,hc,X⟩:=ho;have HX:=aa X;obtain⟨x0,x1,x2,x3,x4,x5⟩:=X.bx.cells;have HNO:=aa hno;clear hno;clear hm hl X x0 x1 x4 x5;have q:∀ (w:World) (a:Option Addr) (n c n' c':Nat),(binOp .eql 78 (.slice a n c) (.slice none n' c')).run Tryz.prog w=.ok (.bool a.isNone) w:=fun w a n c n' c'=>Lib.run_eql_slice_nil w _ _ a n c n' c' Tryz.underlying78
 go_enter Tryz.func93,Tryz.ntmps93;go_wp2_with fail;refine(gA (o.sb:Int) (o.want:Int) a len cap l w HL.o hlen hcap (by omega) hsb (by omega) hwt).mono ?_;clear x2 x3;rintro e w1 ⟨hr,E1⟩;have HE1:=aa E1;clear E1;rcases hr with ⟨kd,nm,nb,bs,_,_,h,_⟩|⟨x,kd,nm,nb,bs,_,h,_⟩|⟨_,rfl⟩
 ·exact absurd h (HNO.o _ _ _ _ _)
 ·exact absurd h (HNO.o _ _ _ _ _)
 obtain⟨W2,hW2⟩:∃ W2:World,Hid (W2=(w1.alloc (.cells #[.int .i64 (o.sb:Int),.int .i64 (o.want:Int)] 91)).alloc (.cells #[.int .i64 0,.slice none 0 0,.slice none 0 0] 173)):=⟨_,rfl⟩
 have D2:=aa (show Gq w1 W2 by rw[hW2.o];exact(af _ _).alloc (by simp) _);have B2:=aa (show Bx W2 w1.heap.size #[.int .i64 (o.sb:Int),.int .i64 (o.want:Int)] 91 by rw[hW2.o];exact(Bx.new w1 _ _).alloc _);have C2:=aa (show Bx W2 (w1.heap.size+1) #[.int .i64 0,.slice none 0 0,.slice none 0 0] 173 by
  rw[hW2.o];have h:=Bx.new (w1.alloc (.cells #[.int .i64 (o.sb:Int),.int .i64 (o.want:Int)] 91)) #[.int .i64 0,.slice none 0 0,.slice none 0 0] 173;rw[World.size_alloc] at h;exact h)
 have F2:=aa (show Gq w W2 from HE1.o.trans (D2.o.mono HE1.o.size));go_upto_region 2 with fail
 rw[←hW2.o];go_wp2_with fail;exact bodyPost_ret (v:=.tuple #[.slice none 0 0,.nilIface]) (by simp[results,Tryz.results93,go_sem]) rfl ⟨_,rfl,aa (OtD.same HM.o HO.o F2.o),aa rfl⟩
theorem tS (B S:Nat→Prop) (O n:Nat) (ae:List (List B8)) (o:Of_) (w:World) (hm:Mut S w) (ho:OtW B S w O n ae o) (a:Option Addr) (len cap:Nat) (l:List Int) (hl:Bytes w a len l) (hlen:len≤2000) (hcap:len≤cap) (hsb:(o.sb:Int)≤2147483647) (hwt:(o.want:Int)≤2147483647) (hf:o.bG=true) (x kd:Int) (nm:List Int) (nb:Nat) (bs:List Int) (hms:Mx.Msg l (o.sb:Int) x kd nm nb bs) :
 Calls Tryz.prog 93 #[.pointer (some ⟨O,0,none⟩),.slice a len cap] w fun e w'=>∃ v,e=.returned (.tuple #[v,.nilIface])∧Hid (OtD B S w w' O n ae o)∧Hid (cU S w' v (some (Mx.aY 4 [(o.sb:Int)] 0 []))):=by
 have HM:=aa hm;have HO:=aa ho;have HL:=aa hl;obtain⟨g,na,nn,nc,ha,hn,hc,X⟩:=ho;have HX:=aa X;obtain⟨x0,x1,x2,x3,x4,x5⟩:=X.bx.cells;have hw7:o.want=2147483647:=of_decide_eq_true (by rw[←X.r.fg];exact hf);have HW7:=aa hw7;have HMS:=aa hms;clear hms hf hw7;clear hm hl X x0 x1 x4 x5;have q:∀ (w:World) (a:Option Addr) (n c n' c':Nat),(binOp .eql 78 (.slice a n c) (.slice none n' c')).run Tryz.prog w=.ok (.bool a.isNone) w:=fun w a n c n' c'=>Lib.run_eql_slice_nil w _ _ a n c n' c' Tryz.underlying78
 go_enter Tryz.func93,Tryz.ntmps93;go_wp2_with fail;refine(gA (o.sb:Int) (o.want:Int) a len cap l w HL.o hlen hcap (by omega) hsb (by omega) hwt).mono ?_;clear x2 x3;rintro e w1 ⟨hr,E1⟩;have HE1:=aa E1;clear E1;obtain⟨vb,rfl,hvb⟩:∃ vb,e=.returned (.tuple #[.agg #[.int .i64 (o.sb:Int),.int .i64 (o.want:Int)],.agg #[.int .i64 0,.slice none 0 0,.slice none 0 0],.bool false,vb,.nilIface])∧Own w1 w.heap.size vb (Mx.aY 0 [(o.sb:Int),(o.want:Int)] 0 []):=by
  rcases hr with ⟨_,_,_,_,_,_,_,h,_⟩|⟨x',kd',nm',nb',bs',vb,h,hnw,he,hvb⟩|⟨h,_⟩
  ·exact absurd HW7.o (by omega)
  ·exact⟨vb,he,hvb⟩
  ·exact absurd HMS.o (h _ _ _ _ _)
 clear hr;obtain⟨ba,bc,hbv,hbc,hbr,hbp⟩:=Own.br hvb;have hbpos:=dN 0 [(o.sb:Int),(o.want:Int)] 0 [];obtain⟨bb,bo,hba,_⟩:=hbr.2.2.2 hbpos;obtain⟨BN,hBN⟩:∃ BN:Nat,Hid (BN=(Mx.aY 0 [(o.sb:Int),(o.want:Int)] 0 []).length):=⟨_,rfl⟩
 subst hba;rw[←hBN.o] at hbv;subst hbv;have HVB:=aa hvb;have HBC:=aa hbc;clear hvb hbc hbr hbp hbpos;obtain⟨W2,hW2⟩:∃ W2:World,Hid (W2=(w1.alloc (.cells #[.int .i64 (o.sb:Int),.int .i64 (o.want:Int)] 91)).alloc (.cells #[.int .i64 0,.slice none 0 0,.slice none 0 0] 173)):=⟨_,rfl⟩
 have D2:=aa (show Gq w1 W2 by rw[hW2.o];exact(af _ _).alloc (by simp) _);have B2:=aa (show Bx W2 w1.heap.size #[.int .i64 (o.sb:Int),.int .i64 (o.want:Int)] 91 by rw[hW2.o];exact(Bx.new w1 _ _).alloc _);have C2:=aa (show Bx W2 (w1.heap.size+1) #[.int .i64 0,.slice none 0 0,.slice none 0 0] 173 by
  rw[hW2.o];have h:=Bx.new (w1.alloc (.cells #[.int .i64 (o.sb:Int),.int .i64 (o.want:Int)] 91)) #[.int .i64 0,.slice none 0 0,.slice none 0 0] 173;rw[World.size_alloc] at h;exact h)
 have F2:=aa (show Gq w W2 from HE1.o.trans (D2.o.mono HE1.o.size));go_upto_region 2 with fail
 rw[←hW2.o];have X2:=aa (HX.o.later F2.o);obtain⟨x0,x1,x2,x3,x4,x5⟩:=X2.o.bx.cells;clear x0 x1 x4 x5;go_wp2_with fail;refine(fa O (o.want:Int) W2 x3 true (by rw[HW7.o];rfl)).mono ?_;rintro e wz ⟨rfl,hz⟩;obtain rfl:=hz.symm;clear hz;obtain⟨W5,hW5⟩:∃ W5:World,Hid (W5=W2.alloc (.cells #[.int .i64 (o.sb:Int)] 3)):=⟨_,rfl⟩
 have D5:=beA hW5;have I5:=aa (show ay W5 (some ⟨W2.heap.size,0,none⟩) 1 [(o.sb:Int)] by rw[hW5.o];exact jg W2 [(o.sb:Int)] _ (by simp) _ (by simp));have HM1:=aa (Mx.Bg (k:=4) (x:=(o.sb:Int)) (by omega) ⟨by omega,hsb⟩);go_wp2_with fail;rw[←hW5.o];refine(jh 4 (some ⟨W2.heap.size,0,none⟩) 1 1 [(o.sb:Int)] W5 I5.o HM1.o).mono ?_;rintro e w6 ⟨v,rfl,O6,E6⟩;have F6:=aa (show Gq w w6 from F2.o.trans ((D5.o.trans (E6.o.mono D5.o.size)).mono F2.o.size));have F5:=aa (show Gq w W5 from F2.o.trans (D5.o.mono F2.o.size));clear x2 x3;go_wp2_with fail;exact bodyPost_ret (v:=.tuple #[v,.nilIface]) (by simp[results,Tryz.results93,go_sem]) rfl ⟨v,rfl,aa (OtD.same HM.o HO.o F6.o),aa (cU.of O6.o (HM.o.later F5.o) (Gi _) (dN _ _ _ _) (eS (fT w) HM1.o))⟩
theorem Bv (B S:Nat→Prop) (O n:Nat) (ae:List (List B8)) (o:Of_) (w:World) (hm:Mut S w) (ho:OtW B S w O n ae o) (a:Option Addr) (len cap:Nat) (l:List Int) (hl:Bytes w a len l) (hlen:len≤2000) (hcap:len≤cap) (hsb:(o.sb:Int)≤2147483647) (hwt:(o.want:Int)≤2147483647) (hf:o.bG=false) (x kd:Int) (nm:List Int) (nb:Nat) (bs:List Int) (hms:Mx.Msg l (o.sb:Int) x kd nm nb bs) (hx:x≠(o.want:Int)) :
 Calls Tryz.prog 93 #[.pointer (some ⟨O,0,none⟩),.slice a len cap] w fun e w'=>∃ v,e=.returned (.tuple #[v,.nilIface])∧Hid (OtD B S w w' O n ae o)∧Hid (cU S w' v (some (Mx.aY 0 [(o.sb:Int),(o.want:Int)] 0 []))):=by
 have HM:=aa hm;have HO:=aa ho;have HL:=aa hl;obtain⟨g,na,nn,nc,ha,hn,hc,X⟩:=ho;have HX:=aa X;obtain⟨x0,x1,x2,x3,x4,x5⟩:=X.bx.cells;have hw7:((o.want:Int)==2147483647)=false:=by
  have h1:=X.r.fg;rw[hf] at h1;have h2:=of_decide_eq_false h1.symm;simp;omega
 have HMS:=aa hms;have HXW:=aa hx;have HMY:=aa (Mx.oN (x:=(o.sb:Int)) (y:=(o.want:Int)) (by omega) hsb (by omega) hwt);clear hms hf hx;clear hm hl X x0 x1 x4 x5;have q:∀ (w:World) (a:Option Addr) (n c n' c':Nat),(binOp .eql 78 (.slice a n c) (.slice none n' c')).run Tryz.prog w=.ok (.bool a.isNone) w:=fun w a n c n' c'=>Lib.run_eql_slice_nil w _ _ a n c n' c' Tryz.underlying78
 go_enter Tryz.func93,Tryz.ntmps93;go_wp2_with fail;refine(gA (o.sb:Int) (o.want:Int) a len cap l w HL.o hlen hcap (by omega) hsb (by omega) hwt).mono ?_;clear x2 x3;rintro e w1 ⟨hr,E1⟩;have HE1:=aa E1;clear E1;obtain⟨vb,rfl,hvb⟩:∃ vb,e=.returned (.tuple #[.agg #[.int .i64 (o.sb:Int),.int .i64 (o.want:Int)],.agg #[.int .i64 0,.slice none 0 0,.slice none 0 0],.bool false,vb,.nilIface])∧Own w1 w.heap.size vb (Mx.aY 0 [(o.sb:Int),(o.want:Int)] 0 []):=by
  rcases hr with ⟨kd',nm',nb',bs',v,vb,h,_⟩|⟨x',kd',nm',nb',bs',vb,h,hnw,he,hvb⟩|⟨h,_⟩
  ·exact absurd (Mx.mR HMS.o h).2.1 HXW.o
  ·exact⟨vb,he,hvb⟩
  ·exact absurd HMS.o (h _ _ _ _ _)
 clear hr;obtain⟨ba,bc,hbv,hbc,hbr,hbp⟩:=Own.br hvb;have hbpos:=dN 0 [(o.sb:Int),(o.want:Int)] 0 [];obtain⟨bb,bo,hba,_⟩:=hbr.2.2.2 hbpos;obtain⟨BN,hBN⟩:∃ BN:Nat,Hid (BN=(Mx.aY 0 [(o.sb:Int),(o.want:Int)] 0 []).length):=⟨_,rfl⟩
 subst hba;rw[←hBN.o] at hbv;subst hbv;have HVB:=aa hvb;have HBC:=aa hbc;clear hvb hbc hbr hbp hbpos;obtain⟨W2,hW2⟩:∃ W2:World,Hid (W2=(w1.alloc (.cells #[.int .i64 (o.sb:Int),.int .i64 (o.want:Int)] 91)).alloc (.cells #[.int .i64 0,.slice none 0 0,.slice none 0 0] 173)):=⟨_,rfl⟩
 have D2:=aa (show Gq w1 W2 by rw[hW2.o];exact(af _ _).alloc (by simp) _);have B2:=aa (show Bx W2 w1.heap.size #[.int .i64 (o.sb:Int),.int .i64 (o.want:Int)] 91 by rw[hW2.o];exact(Bx.new w1 _ _).alloc _);have C2:=aa (show Bx W2 (w1.heap.size+1) #[.int .i64 0,.slice none 0 0,.slice none 0 0] 173 by
  rw[hW2.o];have h:=Bx.new (w1.alloc (.cells #[.int .i64 (o.sb:Int),.int .i64 (o.want:Int)] 91)) #[.int .i64 0,.slice none 0 0,.slice none 0 0] 173;rw[World.size_alloc] at h;exact h)
 have F2:=aa (show Gq w W2 from HE1.o.trans (D2.o.mono HE1.o.size));go_upto_region 2 with fail
 rw[←hW2.o];have X2:=aa (HX.o.later F2.o);have M2:=aa (HM.o.later F2.o);obtain⟨x0,x1,x2,x3,x4,x5⟩:=X2.o.bx.cells;have xz:=Bx.frozen X2.o.bx;clear x0 x1 x4 x5;obtain⟨b0,b1⟩:=B2.o.pair;have hbO:¬w1.heap.size=O:=by
  have h1:=Bx.lt HX.o.bx;have h2:=HE1.o.size;omega
 have hbO2:¬O=w1.heap.size:=fun e=>hbO e.symm
 obtain⟨W3,hW3⟩:∃ W3:World,Hid (W3=(W2.setCell ⟨O,2,none⟩ (.int .i64 (o.sb:Int))).setCell ⟨O,3,none⟩ (.int .i64 (o.want:Int))):=⟨_,rfl⟩
 have G3:=aa (show W2.grownBy W3 (some O) by rw[hW3.o];exact ak (ak (aq _ _) _ _) _ _);have Z3:=aa (Ex.one G3.o);have X3:=aa (show Obx W3 O g n (o.sb:Int) (o.want:Int) na nn nc ha hn hc by rw[hW3.o];exact Bx.set (Bx.set X2.o.bx 2 _) 3 _);have M3:=aa (M2.o.dZ Z3.o X3.o fW);have hSO:∀ b,b=O→S b:=fun b e=>by rw[e];exact X2.o.sub _ X2.o.aO
 have R3:=aa (X2.o.r.ext Z3.o hSO (fun e=>X2.o.ne e.symm));have E3:=aa (show Ex B w W3 from(Ex.below (S:=B) F2.o).chain Z3.o (fun b _ e=>by rw[e];exact X2.o.aO));have V3:=aa (show cU S w1 (.slice (some ⟨bb,bo,none⟩) BN bc) (some (Mx.aY 0 [(o.sb:Int),(o.want:Int)] 0 [])) from(cU.of HVB.o HM.o (Gi _) (dN _ _ _ _) (eS (fT w) HMY.o)));have VF:=aa (show cU S W3 (.slice (some ⟨bb,bo,none⟩) BN bc) (some (Mx.aY 0 [(o.sb:Int),(o.want:Int)] 0 [])) from by
  obtain⟨a',c',hv,hb,hc⟩:=V3.o;exact⟨a',c',hv,(hb.ext (Ex.below D2.o)).ext (Z3.o.mono (fun b _ e=>hSO b e)),hc⟩)
 go_wp2_with fail;refine(fa O (o.want:Int) W2 x3 false hw7).mono ?_;rintro e wz ⟨rfl,hz⟩;obtain rfl:=hz.symm;clear hz;go_wp2_with fail;rw[←hW3.o];exact bodyPost_ret (v:=.tuple #[.slice (some ⟨bb,bo,none⟩) BN bc,.nilIface]) (by simp[results,Tryz.results93,go_sem]) rfl ⟨_,rfl,aa ⟨M3.o,⟨g,na,nn,nc,ha,hn,hc,X3.o,R3.o,X2.o.aO,X2.o.ag,X2.o.sub⟩,E3.o⟩,VF⟩
theorem ze (B S:Nat→Prop) (O n:Nat) (ae:List (List B8)) (o:Of_) (w:World) (hm:Mut S w) (ho:OtW B S w O n ae o) (a:Option Addr) (len cap:Nat) (l:List Int) (hl:Bytes w a len l) (hlen:len≤2000) (hcap:len≤cap) (hsb:(o.sb:Int)≤2147483647) (hwt:(o.want:Int)≤2147483647) (kd:Int) (nm:List Int) (nb:Nat) (bs:List Int) (hms:Mx.Msg l (o.sb:Int) (o.want:Int) kd nm nb bs) (hw1:(o.want:Int)+1<2147483647) (o1:Of_) (ho1:o1.sb=o.sb∧o1.want=o.want∧o1.bG=false) (ht:∀ (W:World) (a1:Option Addr) (n1 c1:Nat) (a2:Option Addr) (c2:Nat),Mut S W→OtW B S W O n ae o→ay W a1 n1 nm→aS W a2 nb bs→n1≤c1→nb≤c2→Calls Tryz.prog 128 #[.pointer (some ⟨O,0,none⟩),.agg #[.int .i64 kd,.slice a1 n1 c1,.slice a2 nb c2]] W fun e w'=>e=.returned .nilIface∧Hid (OtD B S W w' O n ae o1)) :
 Calls Tryz.prog 93 #[.pointer (some ⟨O,0,none⟩),.slice a len cap] w fun e w'=>∃ v,e=.returned (.tuple #[v,.nilIface])∧Hid (OtD B S w w' O n ae {o1 with want:=o.want+1})∧Hid (cU S w' v (some (Mx.aY 0 [(o.sb:Int),(o.want:Int)+1] 0 []))):=by
 have HM:=aa hm;have HO:=aa ho;have HL:=aa hl;obtain⟨g,na,nn,nc,ha,hn,hc,X⟩:=ho;have HX:=aa X;obtain⟨x0,x1,x2,x3,x4,x5⟩:=X.bx.cells;have hw7:((o.want:Int)==2147483647)=false:=by simp;omega
 have HMS:=aa hms;have HT:=aa ht;have HO1:=aa ho1;have HMY:=aa (Mx.oN (x:=(o.sb:Int)) (y:=(o.want:Int)+1) (by omega) hsb (by omega) (by omega));clear hms ht ho1;clear hm hl X x0 x1 x4 x5;have q:∀ (w:World) (a:Option Addr) (n c n' c':Nat),(binOp .eql 78 (.slice a n c) (.slice none n' c')).run Tryz.prog w=.ok (.bool a.isNone) w:=fun w a n c n' c'=>Lib.run_eql_slice_nil w _ _ a n c n' c' Tryz.underlying78
 go_enter Tryz.func93,Tryz.ntmps93;go_wp2_with fail;refine(gA (o.sb:Int) (o.want:Int) a len cap l w HL.o hlen hcap (by omega) hsb (by omega) hwt).mono ?_;clear x2 x3;rintro e w1 ⟨hr,E1⟩;have HE1:=aa E1;clear E1;obtain⟨a1,n1,c1,a2,c2,vb,rfl,hi1,hk1,hc1,hc2,hvb⟩:∃ a1 n1 c1 a2 c2 vb,e=.returned (.tuple #[.agg #[.int .i64 (o.sb:Int),.int .i64 ((o.want:Int)+1)],.agg #[.int .i64 kd,.slice a1 n1 c1,.slice a2 nb c2],.bool true,vb,.nilIface])∧ay w1 a1 n1 nm∧aS w1 a2 nb bs∧n1≤c1∧nb≤c2∧Own w1 w.heap.size vb (Mx.aY 0 [(o.sb:Int),(o.want:Int)+1] 0 []):=by
  rcases hr with ⟨kd',nm',nb',bs',v,vb,h,hlt,he,hfr,hvb⟩|⟨x',kd',nm',nb',bs',vb,h,hnw,_⟩|⟨h,_⟩
  ·obtain⟨_,_,rfl,rfl,rfl,rfl⟩:=Mx.mR HMS.o h
   obtain⟨a1,n1,c1,a2,c2,hv,hi1,hk1,hc1,hc2,_⟩:=hfr;subst hv;exact⟨a1,n1,c1,a2,c2,vb,he,hi1,hk1,hc1,hc2,hvb⟩
  ·exact absurd ⟨(Mx.mR HMS.o h).2.1.symm,by omega⟩ hnw
  ·exact absurd HMS.o (h _ _ _ _ _)
 clear hr;have HI1:=aa hi1;have HK1:=aa hk1;have HC1:=aa hc1;have HC2:=aa hc2;clear hi1 hk1 hc1 hc2;obtain⟨ba,bc,hbv,hbc,hbr,hbp⟩:=Own.br hvb;have hbpos:=dN 0 [(o.sb:Int),(o.want:Int)+1] 0 [];obtain⟨bb,bo,hba,_⟩:=hbr.2.2.2 hbpos;obtain⟨BN,hBN⟩:∃ BN:Nat,Hid (BN=(Mx.aY 0 [(o.sb:Int),(o.want:Int)+1] 0 []).length):=⟨_,rfl⟩
 subst hba;rw[←hBN.o] at hbv;subst hbv;have HVB:=aa hvb;have HBC:=aa hbc;clear hvb hbc hbr hbp hbpos;obtain⟨W2,hW2⟩:∃ W2:World,Hid (W2=(w1.alloc (.cells #[.int .i64 (o.sb:Int),.int .i64 ((o.want:Int)+1)] 91)).alloc (.cells #[.int .i64 kd,.slice a1 n1 c1,.slice a2 nb c2] 173)):=⟨_,rfl⟩
 have D2:=aa (show Gq w1 W2 by rw[hW2.o];exact(af _ _).alloc (by simp) _);have B2:=aa (show Bx W2 w1.heap.size #[.int .i64 (o.sb:Int),.int .i64 ((o.want:Int)+1)] 91 by rw[hW2.o];exact(Bx.new w1 _ _).alloc _);have C2:=aa (show Bx W2 (w1.heap.size+1) #[.int .i64 kd,.slice a1 n1 c1,.slice a2 nb c2] 173 by
  rw[hW2.o];have h:=Bx.new (w1.alloc (.cells #[.int .i64 (o.sb:Int),.int .i64 ((o.want:Int)+1)] 91)) #[.int .i64 kd,.slice a1 n1 c1,.slice a2 nb c2] 173;rw[World.size_alloc] at h;exact h)
 have F2:=aa (show Gq w W2 from HE1.o.trans (D2.o.mono HE1.o.size));go_upto_region 2 with fail
 rw[←hW2.o];have X2:=aa (HX.o.later F2.o);have M2:=aa (HM.o.later F2.o);obtain⟨x0,x1,x2,x3,x4,x5⟩:=X2.o.bx.cells;clear x0 x1 x2 x4 x5;obtain⟨f0,f1,f2⟩:=C2.o.three;go_wp2_with fail;refine(fa O (o.want:Int) W2 x3 false hw7).mono ?_;rintro e wz ⟨rfl,hz⟩;obtain rfl:=hz.symm;clear hz x3;go_wp2_with fail;refine(HT.o W2 a1 n1 c1 a2 c2 M2.o (HO.o.later F2.o) (HI1.o.later D2.o) (HK1.o.later D2.o) HC1.o HC2.o).mono ?_;rintro e w4 ⟨rfl,P4⟩;clear f0 f1 f2;have B4:=aa (show Bx w4 w1.heap.size #[.int .i64 (o.sb:Int),.int .i64 ((o.want:Int)+1)] 91 from Ex.bx P4.o.ext B2.o (fun hb=>by
  have h1:=HX.o.sub _ hb;have h2:=HM.o.lt _ h1;have h3:=HE1.o.size;omega))
 obtain⟨g4,na4,nn4,nc4,ha4,hn4,hc4,X4⟩:=P4.o.ot;have HX4:=aa X4;obtain⟨x0,x1,x2,x3,x4,x5⟩:=X4.bx.cells;have xz:=Bx.frozen X4.bx;clear X4 x0 x1 x4 x5;obtain⟨b0,b1⟩:=B4.o.pair;have hbO:¬w1.heap.size=O:=by
  have h1:=Bx.lt HX.o.bx;have h2:=HE1.o.size;omega
 have hbO2:¬O=w1.heap.size:=fun e=>hbO e.symm
 obtain⟨W5,hW5⟩:∃ W5:World,Hid (W5=(w4.setCell ⟨O,2,none⟩ (.int .i64 (o.sb:Int))).setCell ⟨O,3,none⟩ (.int .i64 ((o.want:Int)+1))):=⟨_,rfl⟩
 have G5:=aa (show w4.grownBy W5 (some O) by rw[hW5.o];exact ak (ak (aq _ _) _ _) _ _);have Z5:=aa (Ex.one G5.o);have hcw:((o.want+1:Nat):Int)=(o.want:Int)+1:=by push_cast;rfl
 have X5:=aa (show Obx W5 O g4 n (o1.sb:Int) ((o.want+1:Nat):Int) na4 nn4 nc4 ha4 hn4 hc4 by
  rw[hW5.o,hcw,HO1.o.1];exact Bx.set (Bx.set HX4.o.bx 2 _) 3 _)
 have M5:=aa (P4.o.mu.dZ Z5.o X5.o fW);have hSO:∀ b,b=O→S b:=fun b e=>by rw[e];exact HX4.o.sub _ HX4.o.aO
 have R5:=aa (show OtR S W5 n ae {o1 with want:=o.want+1} g4 na4 nn4 nc4 ha4 hn4 hc4 from by
  have hr:=HX4.o.r.ext Z5.o hSO (fun e=>HX4.o.ne e.symm);refine⟨hr.nd,hr.nu,hr.nc,hr.hd,hr.hc,?_⟩;show o1.bG=_
  rw[HO1.o.2.2];simp;omega)
 have E5:=aa (show Ex B w W5 from((Ex.below (S:=B) F2.o).chain P4.o.ext (fun _ _ h=>h)).chain Z5.o (fun b _ e=>by rw[e];exact HX4.o.aO));have V3:=aa (show cU S w1 (.slice (some ⟨bb,bo,none⟩) BN bc) (some (Mx.aY 0 [(o.sb:Int),(o.want:Int)+1] 0 [])) from(cU.of HVB.o HM.o (Gi _) (dN _ _ _ _) (eS (fT w) HMY.o)));have VF:=aa (show cU S W5 (.slice (some ⟨bb,bo,none⟩) BN bc) (some (Mx.aY 0 [(o.sb:Int),(o.want:Int)+1] 0 [])) from by
  obtain⟨a',c',hv,hb,hc⟩:=V3.o;exact⟨a',c',hv,((hb.ext (Ex.below D2.o)).ext (P4.o.ext.mono (fun b _ e=>HX4.o.sub b e))).ext (Z5.o.mono (fun b _ e=>hSO b e)),hc⟩)
 clear hcw;go_wp2_with fail;rw[←hW5.o];exact bodyPost_ret (v:=.tuple #[.slice (some ⟨bb,bo,none⟩) BN bc,.nilIface]) (by simp[results,Tryz.results93,go_sem]) rfl ⟨_,rfl,aa ⟨M5.o,⟨g4,na4,nn4,nc4,ha4,hn4,hc4,X5.o,R5.o,HX4.o.aO,HX4.o.ag,HX4.o.sub⟩,E5.o⟩,VF⟩
end
section
open Go.RowKit Go.ChangeMaps
theorem wE (B S:Nat→Prop) (O n:Nat) (ae:List (List B8)) (o:Of_) (w:World) (hm:Mut S w) (ho:OtW B S w O n ae o) (a:Option Addr) (len cap:Nat) (l:List Int) (hl:Bytes w a len l) (hlen:len≤2000) (hcap:len≤cap) (hno:∀ k ns nb bs,¬Mx.aE l k ns nb bs) :
 Calls Tryz.prog 49 #[.pointer (some ⟨O,0,none⟩),.slice a len cap] w fun e w'=>∃ v,e=.returned (.tuple #[v,.nilIface])∧Hid (OtD B S w w' O n ae o)∧Hid (cU S w' v none):=by
 have HM:=aa hm;have HO:=aa ho;have HL:=aa hl;have HNO:=aa hno;clear hno;clear hm ho hl;go_enter Tryz.func49,Tryz.ntmps49;go_wp2_with fail;refine(cT a len cap l w HL.o hlen hcap).mono ?_;rintro e w1 ht;obtain⟨rfl,hE1⟩:e=.returned (.tuple #[.agg #[.int .i64 0,.slice none 0 0,.slice none 0 0],.iface 28 (.int .i64 3)])∧Gq w w1:=by
  rcases ht with ⟨kind',nums',nb',bs',a1,c1,a2,c2,he,hf,_⟩|⟨he,_,hE⟩
  ·exact absurd hf (HNO.o _ _ _ _)
  ·exact⟨he,hE⟩
 have HE1:=aa hE1;clear ht hE1;obtain⟨W2,hW2⟩:∃ W2:World,Hid (W2=w1.alloc (.cells #[.int .i64 0,.slice none 0 0,.slice none 0 0] 173)):=⟨_,rfl⟩
 have D2:=beA hW2;have C2:=bxA hW2;have F2:=aa (show Gq w W2 from HE1.o.trans (D2.o.mono HE1.o.size));go_upto_region 2 with fail
 rw[←hW2.o];go_wp2_with fail;exact bodyPost_ret (v:=.tuple #[.slice none 0 0,.nilIface]) (by simp[results,Tryz.results49,go_sem]) rfl ⟨_,rfl,aa (OtD.same HM.o HO.o F2.o),aa rfl⟩
theorem wF (B S:Nat→Prop) (O n:Nat) (ae:List (List B8)) (o:Of_) (w:World) (hm:Mut S w) (ho:OtW B S w O n ae o) (a:Option Addr) (len cap:Nat) (l:List Int) (hl:Bytes w a len l) (hlen:len≤2000) (hcap:len≤cap) (s:Nat) (hF:Mx.aE l 2 [(s:Int)] 0 []) (hs:(s:Int)≤2147483647) (hb:(o.back:Int)≤2147483647) :
 Calls Tryz.prog 49 #[.pointer (some ⟨O,0,none⟩),.slice a len cap] w fun e w'=>∃ v,e=.returned (.tuple #[v,.nilIface])∧Hid (OtD B S w w' O n ae (ey o s))∧Hid (cU S w' v (eO o s)):=by
 have HM:=aa hm;have HO:=aa ho;have HL:=aa hl;have HF:=aa hF;clear hF;clear hm ho hl;go_enter Tryz.func49,Tryz.ntmps49;go_wp2_with fail;refine(cT a len cap l w HL.o hlen hcap).mono ?_;rintro e w1 ht;obtain⟨a1,c1,a2,c2,rfl,hi1,hE1⟩:∃ a1 c1 a2 c2,e=.returned (.tuple #[.agg #[.int .i64 2,.slice a1 [(s:Int)].length c1,.slice a2 0 c2],.nilIface])∧ay w1 a1 [(s:Int)].length [(s:Int)]∧Gq w w1:=by
  rcases ht with ⟨kind',nums',nb',bs',a1,c1,a2,c2,he,hf,hi1,_,_,_,_,_,hE⟩|⟨_,hno,_⟩
  ·obtain⟨rfl,rfl,rfl,rfl⟩:=Mx.aE.one HF.o hf
   exact⟨a1,c1,a2,c2,he,hi1,hE⟩
  ·exact absurd HF.o (hno _ _ _ _)
 have HE1:=aa hE1;have HI1:=aa hi1;clear ht hi1 hE1;obtain⟨W2,hW2⟩:∃ W2:World,Hid (W2=w1.alloc (.cells #[.int .i64 2,.slice a1 1 c1,.slice a2 0 c2] 173)):=⟨_,rfl⟩
 have D2:=beA hW2;have C2:=bxA hW2;have F2:=aa (show Gq w W2 from HE1.o.trans (D2.o.mono HE1.o.size));go_upto_region 2 with fail
 rw[←hW2.o];obtain⟨f0,f1,f2⟩:=C2.o.three;obtain⟨ib,io,hia,hib,hic⟩:=HI1.o.2.2 (by simp);subst hia;have j0:W2.cell? ⟨ib,io,none⟩=some (.int .i64 (s:Int)):=(D2.o.cell (p:=⟨ib,io,none⟩) hib).trans (by simpa using hic 0 (by simp));clear hic;go_wp2_with fail;refine(yX B S O n ae o W2 (HM.o.later F2.o) (HO.o.later F2.o) s hs hb).mono ?_;rintro e w3 ⟨v,rfl,P3,V3⟩;clear f0 f1 f2 j0;go_wp2_with fail;exact bodyPost_ret (v:=.tuple #[v,.nilIface]) (by simp[results,Tryz.results49,go_sem]) rfl ⟨_,rfl,aa ⟨P3.o.mu,P3.o.ot,(Ex.below F2.o).trans P3.o.ext⟩,V3⟩
theorem yW (B S:Nat→Prop) (O n:Nat) (ae:List (List B8)) (o:Of_) (w:World) (hm:Mut S w) (ho:OtW B S w O n ae o) (a:Option Addr) (len cap:Nat) (l:List Int) (hl:Bytes w a len l) (hlen:len≤2000) (hcap:len≤cap) (al:List Int) (nb:Nat) (bs:List Int) (hF:Mx.aE l 1 al nb bs) (o1:Of_) (ans:Option (List Int)) (hr:∀ W:World,Mut S W→OtW B S W O n ae o→Bytes W a len l→Calls Tryz.prog 93 #[.pointer (some ⟨O,0,none⟩),.slice a len cap] W fun e w'=>∃ v,e=.returned (.tuple #[v,.nilIface])∧Hid (OtD B S W w' O n ae o1)∧Hid (cU S w' v ans)) :
 Calls Tryz.prog 49 #[.pointer (some ⟨O,0,none⟩),.slice a len cap] w fun e w'=>∃ v,e=.returned (.tuple #[v,.nilIface])∧Hid (OtD B S w w' O n ae o1)∧Hid (cU S w' v ans):=by
 have HM:=aa hm;have HO:=aa ho;have HL:=aa hl;have HF:=aa hF;have HR:=aa hr;clear hF hr;clear hm ho hl;go_enter Tryz.func49,Tryz.ntmps49;go_wp2_with fail;refine(cT a len cap l w HL.o hlen hcap).mono ?_;rintro e w1 ht;obtain⟨a1,c1,a2,c2,rfl,hi1,hE1⟩:∃ a1 c1 a2 c2,e=.returned (.tuple #[.agg #[.int .i64 1,.slice a1 al.length c1,.slice a2 nb c2],.nilIface])∧ay w1 a1 al.length al∧Gq w w1:=by
  rcases ht with ⟨kind',nums',nb',bs',a1,c1,a2,c2,he,hf,hi1,_,_,_,_,_,hE⟩|⟨_,hno,_⟩
  ·obtain⟨rfl,rfl,rfl,rfl⟩:=Mx.aE.one HF.o hf
   exact⟨a1,c1,a2,c2,he,hi1,hE⟩
  ·exact absurd HF.o (hno _ _ _ _)
 have HE1:=aa hE1;have HI1:=aa hi1;clear ht hi1 hE1;obtain⟨NN,hNN⟩:∃ NN:Nat,Hid (NN=al.length):=⟨_,rfl⟩
 rw[←hNN.o];obtain⟨W2,hW2⟩:∃ W2:World,Hid (W2=w1.alloc (.cells #[.int .i64 1,.slice a1 NN c1,.slice a2 nb c2] 173)):=⟨_,rfl⟩
 have D2:=beA hW2;have C2:=bxA hW2;have F2:=aa (show Gq w W2 from HE1.o.trans (D2.o.mono HE1.o.size));go_upto_region 2 with fail
 rw[←hW2.o];obtain⟨f0,f1,f2⟩:=C2.o.three;go_wp2_with fail;refine(HR.o W2 (HM.o.later F2.o) (HO.o.later F2.o) (HL.o.later F2.o)).mono ?_;rintro e w3 ⟨v,rfl,P3,V3⟩;clear f0 f1 f2;go_wp2_with fail;exact bodyPost_ret (v:=.tuple #[v,.nilIface]) (by simp[results,Tryz.results49,go_sem]) rfl ⟨_,rfl,aa ⟨P3.o.mu,P3.o.ot,(Ex.below F2.o).trans P3.o.ext⟩,V3⟩
end
section
open Go.RowKit Go.ChangeMaps
def Cr:Code→Code
 | .block _ (.seq _ (.cond _ _ (.seq _ (.cond _ _ d)))) => d
 | c => c
theorem xX {c c':Code} {Q:Exit→Act→World→Prop} {a:Act} {x:World} (h:c=c') (hs:Code.wp Tryz.prog c' Q a x):Code.wp Tryz.prog c Q a x:=h▸hs
theorem phd {A S:Nat→Prop} {P n:Nat} {ae:List (List B8)} {b:Bu} {p:Pf_} {w W:World} {a:Option Addr} {len cap:Nat} {l:List Int} (HPW:Hid (PrW A S W P n ae b p)) (HMW:Hid (Mut S W)) (HLW:Hid (Bytes W a len l)) (hlen:len≤2000) (hcap:len≤cap) (FV:Hid (Gq w W)) (HSD:Hid (Mx.bD ⟨(p.s:Int),(p.base:Int),p.queue⟩=0)) {G:Nat} (HG:Hid (Mx.iU (p.s:Int) (p.base:Int) p.queue.length l G)) {u2 u3 u4 u5 u6 u7 u8 u9 Iy Il Iv Ik Ho Gv Gw Gx Gy Gz GC GD GH GI GJ GK GL GM GO GP GQ GR GS GU GV GX GY GZ Ha Hb Hc He Hf Hg Hh Hi Hj Hk Hl Hm Hn Hp Hq Hr Hs Ht Ia Ib Ic Ie Ig Ih Ii Ij Iw Ix Iz IA IB IC ID IE IG IH II IJ IK IL IM IN IP IQ IS IT IU IV IY IZ I9 Ja:Value} {Q:Exit→Act→World→Prop} {K:Act→World→Prop} (hK:∀ a' x',Code.wp Tryz.prog (Fj (Cr (fG (dH 4 (Tryz.f48.body.getD .skip))))) Q a' x'→K a' x') (hQ:∀ (v8 v9 Km Ko Kp Kg Kq Ks Kt Ku Kv Kw Kx Ky Kz KA KC KD:Value) (x':World),Hid (Mut S x'∧PrW A S x' P n ae b {p with base:=p.base+G,queue:=p.queue.drop G}∧Ex A w x')→Q .normal ⟨#[.pointer (some ⟨P,0,none⟩),.slice a len cap,u2,u3,u4,u5,u6,u7,v8,v9,Iy,Il,Iv,Ik,Ho,Gv,Gw,Gx,Gy,Gz,GC,GD,Km,Ko,Kp,Kg,Kq,Ks,Kt,Ku,Kv,Kw,Kx,Ky,Kz,KA,KC,KD,Ha,Hb,Hc,He,Hf,Hg,Hh,Hi,Hj,Hk,Hl,Hm,Hn,Hp,Hq,Hr,Hs,Ht,Ia,Ib,Ic,Ie,Ig,Ih,Ii,Ij,Iw,Ix,Iz,IA,IB,IC,ID,IE,IG,IH,II,IJ,IK,IL,IM,IN,IP,IQ,IS,IT,IU,IV,IY,IZ,I9,Ja],[]⟩ x') :
 Code.wp Tryz.prog (fG (Cr (fG (dH 4 (Tryz.f48.body.getD .skip))))) (Exit.then K Q) ⟨#[.pointer (some ⟨P,0,none⟩),.slice a len cap,u2,u3,u4,u5,u6,u7,u8,u9,Iy,Il,Iv,Ik,Ho,Gv,Gw,Gx,Gy,Gz,GC,GD,GH,GI,GJ,GK,GL,GM,GO,GP,GQ,GR,GS,GU,GV,GX,GY,GZ,Ha,Hb,Hc,He,Hf,Hg,Hh,Hi,Hj,Hk,Hl,Hm,Hn,Hp,Hq,Hr,Hs,Ht,Ia,Ib,Ic,Ie,Ig,Ih,Ii,Ij,Iw,Ix,Iz,IA,IB,IC,ID,IE,IG,IH,II,IJ,IK,IL,IM,IN,IP,IQ,IS,IT,IU,IV,IY,IZ,I9,Ja],[]⟩ W:=by
 have HQ:=aa @hQ;have hK2:∀ a' x',Code.wp Tryz.prog _ Q a' x'→K a' x':=fun a' x' h=>hK a' x' (xX (c':=.seq _ _) rfl h)
 clear hQ hK;obtain⟨g,oa,on,oc,sa,sn,sc,m,qa,qn,qc,ha,hn,hc,X⟩:=HPW.o;have HX:=aa X;clear X;obtain⟨x0,x1,x2,x3,x4,x5,x6,x7,x8,x9,x10,x11,x12,x13⟩:=HX.o.bx.cells;clear x0 x1 x2 x3 x4 x5 x6 x7 x11 x12 x13;refine xX (c':=.region _ _ _) rfl ?_;go_wp2_with fail;have HQL:=aa (show Mx.bD ⟨(p.s:Int),(p.base:Int),p.queue⟩=0 from HSD.o);refine(we (p.s:Int) (p.base:Int) qa qn qc p.queue a len cap l W HX.o.r.qu.fl HX.o.r.qc HLW.o hlen hcap).mono ?_;rintro e w5 ⟨v,rfl,S5,E5⟩;obtain⟨gg,hgg,hSd⟩:∃ gg,Mx.iU (p.s:Int) (p.base:Int) qn l gg∧SdA W.heap.size w5 v ⟨(p.s:Int),(p.base:Int)+(gg:Int),p.queue.drop gg⟩:=by
  rcases S5.o with ⟨h9,_⟩|⟨_,gg,h9,h8⟩
  ·exact absurd HQL.o h9
  ·exact⟨gg,h9,h8⟩
 have hge:gg=G:=by
  have h9:=HG.o;rw[HX.o.r.qu.1] at h9;exact Mx.AV hgg h9
 subst hge;obtain⟨za,zn,zc,hzv,hzq,hzc⟩:=hSd.sdo HMW.o (Gi _);subst hzv;have HZQ:=aa hzq;have HZC:=aa hzc;rw[HQL.o,aG];clear S5 hgg hSd hzq hzc HQL x8 x9 x10;obtain⟨W6,hW6⟩:∃ W6:World,Hid (W6=w5.alloc (.cells #[.int .i64 (p.s:Int),.int .i64 ((p.base:Int)+(gg:Int)),.slice za zn zc] 105)):=⟨_,rfl⟩
 have D6:=beA hW6;have C6:=bxA hW6;have F6:=aa (show Gq W W6 from E5.o.trans (D6.o.mono E5.o.size));have X6:=aa (HX.o.later F6.o);have M6:=aa (HMW.o.later F6.o);go_upto_region 6 with fail
 rw[←hW6.o];obtain⟨x0,x1,x2,x3,x4,x5,x6,x7,x8,x9,x10,x11,x12,x13⟩:=X6.o.bx.cells;have xz:=Bx.frozen X6.o.bx;clear x0 x1 x2 x3 x4 x5 x6 x7 x11 x12 x13;obtain⟨s0,s1,s2⟩:=C6.o.three;have hsP:¬w5.heap.size=P:=by
  have h9:=Bx.lt HX.o.bx;have h8:=E5.o.size;omega
 have hsP2:¬P=w5.heap.size:=fun e=>hsP e.symm
 obtain⟨W7,hW7⟩:∃ W7:World,Hid (W7=((W6.setCell ⟨P,8,none⟩ (.int .i64 (p.s:Int))).setCell ⟨P,9,none⟩ (.int .i64 ((p.base:Int)+(gg:Int)))).setCell ⟨P,10,none⟩ (.slice za zn zc)):=⟨_,rfl⟩
 have G7:=aa (show W6.grownBy W7 (some P) by rw[hW7.o];exact ak (ak (ak (aq _ _) _ _) _ _) _ _);have Z7:=aa (Ex.one G7.o);have hcb:((p.base+gg:Nat):Int)=(p.base:Int)+(gg:Int):=by push_cast;rfl
 have X7:=aa (show Pbx W7 P g n b.num oa on oc sa sn sc b.be m (p.safe:Int) (p.s:Int) ((p.base+gg:Nat):Int) za zn zc p.known (p.goal:Int) ha hn hc by
  rw[hW7.o,hcb];exact((Bx.set X6.o.bx 8 _).set 9 _).set 10 _)
 have M7:=aa (M6.o.dZ Z7.o X7.o fm);have hSP:∀ b,b=P→S b:=fun b e=>by rw[e];exact X6.o.sub _ X6.o.aP
 have R7:=aa (show PrR S W7 n ae b {p with base:=p.base+gg,queue:=p.queue.drop gg} g oa on oc sa sn sc m za zn zc ha hn hc from by
  have hr:=X6.o.r.ext Z7.o hSP (fun e=>X6.o.ne.1 e.symm) (fun e=>X6.o.ne.2.1 e.symm);exact⟨hr.nd,hr.bu,hr.mp,(HZQ.o.oK (Ex.below D6.o)).oK (Z7.o.mono (fun b _ e=>hSP b e)),HZC.o,hr.hd,hr.hc,hr.num⟩)
 have PW:=aa (show PrW A S W7 P n ae b {p with base:=p.base+gg,queue:=p.queue.drop gg} from⟨g,oa,on,oc,sa,sn,sc,m,za,zn,zc,ha,hn,hc,X7.o,R7.o,X6.o.aP,X6.o.ag,X6.o.am,X6.o.sub⟩);have E7:=aa (show Ex A w W7 from((Ex.below (S:=A) FV.o).chain (Ex.below (S:=A) F6.o) (fun _ _ h=>h)).chain Z7.o (fun b _ e=>by rw[e];exact X6.o.aP));go_wp2_with fail;rw[←hW7.o];exact HQ.o _ _ _ _ _ _ _ _ _ _ _ _ _ _ _ _ _ _ _ (aa ⟨M7.o,PW.o,E7.o⟩)
theorem nE (b1 o1 c1 b2 o2 c2:Nat) (x y:Int) (w:World) (h1:w.cell? ⟨b1,o1,none⟩=some (.int .i64 x)) (h2:w.cell? ⟨b2,o2,none⟩=some (.int .i64 y)) (hl1:b1<w.heap.size) (hl2:b2<w.heap.size) (_hc1:1≤c1) (_hc2:1≤c2) :
 Calls Tryz.prog 89 #[.slice (some ⟨b1,o1,none⟩) 1 c1,.slice (some ⟨b2,o2,none⟩) 1 c2] w fun e w'=>e=.returned (.bool (decide (x=y)))∧Hid (Gq w w'):=by
 have H1:=aa h1;have H2:=aa h2;clear h1 h2;go_enter Tryz.func89,Tryz.ntmps89;go_wp2_with fail;go_loopw [13] (fun t wr=>(t=.int .i64 0∨(t=.int .i64 1∧Hid (x=y)))∧Hid (Gq w wr)) (fun t _=>1-(intOf t).toNat)
 case atStart=>exact⟨.inl rfl,Below.refl _ _⟩
 case round =>
  obtain⟨hr,hB⟩:=hrel;rcases hr with rfl|⟨rfl,hxy⟩
  ·have y1:=(hB.o.cell (p:=⟨b1,o1,none⟩) hl1).trans H1.o
   have y2:=(hB.o.cell (p:=⟨b2,o2,none⟩) hl2).trans H2.o;by_cases he:x=y
   ·have hd:(x != y)=false:=by simpa using he
    have HE:=aa he;clear he;go_upto_region 6 with fail
    go_quiet (fail)
    go_wp2_with fail;go_roundw
    case rel=>exact⟨.inr ⟨rfl,HE⟩,aa (below_drewN hB.o _)⟩
    case measure=>simp[intOf]
   ·have hd:(x != y)=true:=by simpa using he
    have HE:=aa he;clear he;go_upto_region 6 with fail
    go_quiet (fail)
    go_wp2_with fail;go_ret;exact⟨by rw[decide_eq_false HE.o]<;>rfl,aa (below_drewN hB.o _)⟩
  ·go_wp2_with fail
   go_ret;exact⟨by rw[decide_eq_true hxy.o]<;>rfl,hB⟩
theorem wS (A S:Nat→Prop) (P n:Nat) (ae:List (List B8)) (b:Bu) (p:Pf_) (w:World) (hm:Mut S w) (hp:PrW A S w P n ae b p) (a:Option Addr) (len cap:Nat) (l:List Int) (hl:Bytes w a len l) (hlen:len≤2000) (hcap:len≤cap) (hno:∀ k ns nb bs,¬Mx.aE l k ns nb bs) :
 Calls Tryz.prog 48 #[.pointer (some ⟨P,0,none⟩),.slice a len cap] w fun e w'=>e=.returned .nilIface∧Hid (PrD A S w w' P n ae b p):=by
 have HM:=aa hm;have HP:=aa hp;have HL:=aa hl;have HNO:=aa hno;clear hno;clear hm hp hl;go_enter Tryz.func48,Tryz.ntmps48;go_wp2_with fail;refine(cT a len cap l w HL.o hlen hcap).mono ?_;rintro e w1 ht;obtain⟨rfl,hE1⟩:e=.returned (.tuple #[.agg #[.int .i64 0,.slice none 0 0,.slice none 0 0],.iface 28 (.int .i64 3)])∧Gq w w1:=by
  rcases ht with ⟨kind',nums',nb',bs',a1,c1,a2,c2,he,hf,_⟩|⟨he,_,hE⟩
  ·exact absurd hf (HNO.o _ _ _ _)
  ·exact⟨he,hE⟩
 have HE1:=aa hE1;clear ht hE1;obtain⟨W2,hW2⟩:∃ W2:World,Hid (W2=w1.alloc (.cells #[.int .i64 0,.slice none 0 0,.slice none 0 0] 173)):=⟨_,rfl⟩
 have D2:=beA hW2;have C2:=bxA hW2;have F2:=aa (show Gq w W2 from HE1.o.trans (D2.o.mono HE1.o.size));go_upto_region 2 with fail
 rw[←hW2.o];go_wp2_with fail;exact bodyPost_ret (v:=.nilIface) (by simp[results,Tryz.results48,go_sem]) rfl ⟨rfl,aa (PrD.same HM.o HP.o F2.o)⟩
theorem wR (A S:Nat→Prop) (P n:Nat) (ae:List (List B8)) (b:Bu) (p:Pf_) (w:World) (hm:Mut S w) (hp:PrW A S w P n ae b p) (a:Option Addr) (len cap:Nat) (l:List Int) (hl:Bytes w a len l) (hlen:len≤2000) (hcap:len≤cap) (s:Nat) (hF:Mx.aE l 4 [(s:Int)] 0 []) (hs:s=p.s) (hs2:((p.s+1:Nat):Int)≤2147483647) (hh:(p.ar:Int)≤2147483647) :
 Calls Tryz.prog 48 #[.pointer (some ⟨P,0,none⟩),.slice a len cap] w fun e w'=>e=.returned .nilIface∧Hid (PrD A S w w' P n ae b ⟨p.ar,p.s+1,p.safe,false,p.goal,0,[],[]⟩):=by
 have HM:=aa hm;have HP:=aa hp;have HL:=aa hl;have HF:=aa hF;clear hF;have HS:=aa hs;have HS2:=aa hs2;have HHV:=aa hh;clear hs hs2 hh;clear hm hp hl;go_enter Tryz.func48,Tryz.ntmps48;go_wp2_with fail;refine(cT a len cap l w HL.o hlen hcap).mono ?_;rintro e w1 ht;obtain⟨a1,c1,a2,c2,hc1,rfl,hi1,hE1⟩:∃ a1 c1 a2 c2,1≤c1∧e=.returned (.tuple #[.agg #[.int .i64 4,.slice a1 [(s:Int)].length c1,.slice a2 0 c2],.nilIface])∧ay w1 a1 [(s:Int)].length [(s:Int)]∧Gq w w1:=by
  rcases ht with ⟨kind',nums',nb',bs',a1,c1,a2,c2,he,hf,hi1,_,_,_,hcc,_,hE⟩|⟨_,hno,_⟩
  ·obtain⟨rfl,rfl,rfl,rfl⟩:=Mx.aE.one HF.o hf
   exact⟨a1,c1,a2,c2,hcc,he,hi1,hE⟩
  ·exact absurd HF.o (hno _ _ _ _)
 have HE1:=aa hE1;have HI1:=aa hi1;have HC1:=aa hc1;clear ht hi1 hE1 hc1;obtain⟨W2,hW2⟩:∃ W2:World,Hid (W2=w1.alloc (.cells #[.int .i64 4,.slice a1 1 c1,.slice a2 0 c2] 173)):=⟨_,rfl⟩
 have D2:=beA hW2;have C2:=bxA hW2;have F2:=aa (show Gq w W2 from HE1.o.trans (D2.o.mono HE1.o.size));go_upto_region 2 with fail
 rw[←hW2.o];obtain⟨ib,io,hia,hib,hic⟩:=HI1.o.2.2 (by simp);subst hia;have j0:W2.cell? ⟨ib,io,none⟩=some (.int .i64 (s:Int)):=(D2.o.cell (p:=⟨ib,io,none⟩) hib).trans (by simpa using hic 0 (by simp));have HP2:=aa (HP.o.later F2.o);have M2:=aa (HM.o.later F2.o);obtain⟨g,oa,on,oc,sa,sn,sc,m,qa,qn,qc,ha,hn,hc,X⟩:=HP2.o;have HX:=aa X;clear X;obtain⟨x0,x1,x2,x3,x4,x5,x6,x7,x8,x9,x10,x11,x12,x13⟩:=HX.o.bx.cells;obtain⟨f0,f1,f2⟩:=C2.o.three;have hc11:1≤c1:=HC1.o;clear hic x0 x1 x2 x3 x4 x5 x6 x7 x9 x10 x11 x12 x13;obtain⟨W3,hW3⟩:∃ W3:World,Hid (W3=W2.alloc (.cells #[.int .i64 (p.s:Int)] 3)):=⟨_,rfl⟩
 have D3:=beA hW3;have k0:W3.cell? ⟨W2.heap.size,0,none⟩=some (.int .i64 (p.s:Int)):=by
  rw[hW3.o];exact(Bx.new W2 #[.int .i64 (p.s:Int)] 3).cell 0
 have k1:W3.cell? ⟨ib,io,none⟩=some (.int .i64 (s:Int)):=(D3.o.cell (p:=⟨ib,io,none⟩) (Gf hib D2.o.size)).trans j0;have hk2:W2.heap.size<W3.heap.size:=by rw[hW3.o];simp
 have hk3:ib<W3.heap.size:=Gf hib (Gn D2.o.size D3.o.size);go_wp2_with fail;rw[←hW3.o];refine(nE ib io c1 W2.heap.size 0 1 (s:Int) (p.s:Int) W3 k1 k0 hk3 hk2 hc11 (by omega)).mono ?_;rintro e w4 ⟨rfl,E4⟩;have F4:=aa (show Gq W2 w4 from D3.o.trans (E4.o.mono D3.o.size));have hde:decide ((s:Int)=(p.s:Int))=true:=by
  exact decide_eq_true (by rw[HS.o])
 rw[hde];clear hde;have F5:=aa (show Gq w w4 from F2.o.trans (F4.o.mono F2.o.size));have hs3:(p.s:Int)+1≤2147483647:=by have h9:=HS2.o;omega
 clear f0 f1 f2 j0 k0 k1;go_wp2_with fail;have HO:=BK A S P n ae b p w4 (HM.o.later F5.o) (HP.o.later F5.o) (p.s+1) HS2.o HHV.o;have hcs:((p.s+1:Nat):Int)=(p.s:Int)+1:=by push_cast;rfl
 rw[hcs] at HO;refine HO.mono ?_;clear HO hcs;rintro e w6 ⟨rfl,P6⟩;go_wp2_with fail;exact bodyPost_ret (v:=.nilIface) (by simp[results,Tryz.results48,go_sem]) rfl ⟨rfl,aa ⟨P6.o.mu,P6.o.pr,(Ex.below F5.o).trans P6.o.ext⟩⟩
theorem wU (A S:Nat→Prop) (P n:Nat) (ae:List (List B8)) (b:Bu) (p:Pf_) (w:World) (hm:Mut S w) (hp:PrW A S w P n ae b p) (a:Option Addr) (len cap:Nat) (l:List Int) (hl:Bytes w a len l) (hlen:len≤2000) (hcap:len≤cap) (s:Nat) (hF:Mx.aE l 4 [(s:Int)] 0 []) (hs:s≠p.s) (hb:Mx.aK b n=0) (hgl:p.known=true→p.goal≤p.ar) (hh:(p.ar:Int)≤2147483647) (hsd:Mx.bD ⟨(p.s:Int),(p.base:Int),p.queue⟩=0) (G:Nat) (hG:Mx.iU (p.s:Int) (p.base:Int) p.queue.length l G) :
 Calls Tryz.prog 48 #[.pointer (some ⟨P,0,none⟩),.slice a len cap] w fun e w'=>e=.returned .nilIface∧Hid (PrD A S w w' P n ae (eE b {p with base:=p.base+G,queue:=p.queue.drop G}) (Mx.Mir.bQ {p with base:=p.base+G,queue:=p.queue.drop G})):=by
 have HM:=aa hm;have HP:=aa hp;have HL:=aa hl;have HF:=aa hF;clear hF;have HS:=aa hs;clear hs;have HBM:=aa hb;have HGL:=aa hgl;have HHV:=aa hh;have HSD:=aa hsd;have HG:=aa hG;clear hb hgl hh hsd hG;clear hm hp hl;go_enter Tryz.func48,Tryz.ntmps48;go_wp2_with fail;refine(cT a len cap l w HL.o hlen hcap).mono ?_;rintro e w1 ht;obtain⟨a1,c1,a2,c2,hc1,rfl,hi1,hE1⟩:∃ a1 c1 a2 c2,1≤c1∧e=.returned (.tuple #[.agg #[.int .i64 4,.slice a1 [(s:Int)].length c1,.slice a2 0 c2],.nilIface])∧ay w1 a1 [(s:Int)].length [(s:Int)]∧Gq w w1:=by
  rcases ht with ⟨kind',nums',nb',bs',a1,c1,a2,c2,he,hf,hi1,_,_,_,hcc,_,hE⟩|⟨_,hno,_⟩
  ·obtain⟨rfl,rfl,rfl,rfl⟩:=Mx.aE.one HF.o hf
   exact⟨a1,c1,a2,c2,hcc,he,hi1,hE⟩
  ·exact absurd HF.o (hno _ _ _ _)
 have HE1:=aa hE1;have HI1:=aa hi1;have HC1:=aa hc1;clear ht hi1 hE1 hc1;obtain⟨W2,hW2⟩:∃ W2:World,Hid (W2=w1.alloc (.cells #[.int .i64 4,.slice a1 1 c1,.slice a2 0 c2] 173)):=⟨_,rfl⟩
 have D2:=beA hW2;have C2:=bxA hW2;have F2:=aa (show Gq w W2 from HE1.o.trans (D2.o.mono HE1.o.size));go_upto_region 2 with fail
 rw[←hW2.o];obtain⟨ib,io,hia,hib,hic⟩:=HI1.o.2.2 (by simp);subst hia;have j0:W2.cell? ⟨ib,io,none⟩=some (.int .i64 (s:Int)):=(D2.o.cell (p:=⟨ib,io,none⟩) hib).trans (by simpa using hic 0 (by simp));have HP2:=aa (HP.o.later F2.o);have M2:=aa (HM.o.later F2.o);obtain⟨g,oa,on,oc,sa,sn,sc,m,qa,qn,qc,ha,hn,hc,X⟩:=HP2.o;have HX:=aa X;clear X;obtain⟨x0,x1,x2,x3,x4,x5,x6,x7,x8,x9,x10,x11,x12,x13⟩:=HX.o.bx.cells;obtain⟨f0,f1,f2⟩:=C2.o.three;have hc11:1≤c1:=HC1.o;clear hic x0 x1 x2 x3 x4 x5 x6 x7 x9 x10 x11 x12 x13;obtain⟨W3,hW3⟩:∃ W3:World,Hid (W3=W2.alloc (.cells #[.int .i64 (p.s:Int)] 3)):=⟨_,rfl⟩
 have D3:=beA hW3;have k0:W3.cell? ⟨W2.heap.size,0,none⟩=some (.int .i64 (p.s:Int)):=by
  rw[hW3.o];exact(Bx.new W2 #[.int .i64 (p.s:Int)] 3).cell 0
 have k1:W3.cell? ⟨ib,io,none⟩=some (.int .i64 (s:Int)):=(D3.o.cell (p:=⟨ib,io,none⟩) (Gf hib D2.o.size)).trans j0;have hk2:W2.heap.size<W3.heap.size:=by rw[hW3.o];simp
 have hk3:ib<W3.heap.size:=Gf hib (Gn D2.o.size D3.o.size);go_wp2_with fail;rw[←hW3.o];refine(nE ib io c1 W2.heap.size 0 1 (s:Int) (p.s:Int) W3 k1 k0 hk3 hk2 hc11 (by omega)).mono ?_;rintro e w4 ⟨rfl,E4⟩;have F4:=aa (show Gq W2 w4 from D3.o.trans (E4.o.mono D3.o.size));have hde:decide ((s:Int)=(p.s:Int))=false:=by
  exact decide_eq_false (by have h9:=HS.o;omega)
 rw[hde];clear hde;have FV:=aa (show Gq w w4 from F2.o.trans (F4.o.mono F2.o.size));have X4:=aa (HX.o.later F4.o);have M4:=aa (M2.o.later F4.o);have HLV:=aa (HL.o.later FV.o);have C4:=aa (C2.o.later F4.o C2.o.lt);clear f0 f1 f2 j0 k0 k1 x8;obtain⟨x0,x1,x2,x3,x4,x5,x6,x7,x8,x9,x10,x11,x12,x13⟩:=X4.o.bx.cells;obtain⟨f0,f1,f2⟩:=C4.o.three;clear x0 x1 x2 x3 x4 x5 x6 x7 x11 x12 x13;go_upto_region 5 with fail
 refine phd (aa (HP.o.later FV.o)) (aa (HM.o.later FV.o)) HLV hlen hcap FV HSD HG (by assumption) ?_;intro v8 v9 Km Ko Kp Kg Kq Ks Kt Ku Kv Kw Kx Ky Kz KA KC KD x' H;go_wp2_with fail;refine(gC A S P n ae b {p with base:=p.base+G,queue:=p.queue.drop G} x' H.o.1 H.o.2.1 HBM.o HGL.o HHV.o).mono ?_;rintro e w8 ⟨rfl,P8⟩;go_wp2_with fail;exact bodyPost_ret (v:=.nilIface) (by simp[results,Tryz.results48,go_sem]) rfl ⟨rfl,aa ⟨P8.o.mu,P8.o.pr,H.o.2.2.trans P8.o.ext⟩⟩
theorem zw (A S:Nat→Prop) (P n:Nat) (ae:List (List B8)) (b:Bu) (p:Pf_) (w:World) (hm:Mut S w) (hp:PrW A S w P n ae b p) (a:Option Addr) (len cap:Nat) (l:List Int) (hl:Bytes w a len l) (hlen:len≤2000) (hcap:len≤cap) (s h:Nat) (hF:Mx.aE l 3 [(s:Int),(h:Int)] 0 []) (hs:s=p.s) (hk:p.known=false) (hb:Mx.aK b n=0) (hgl:h≤p.ar) (hh:(p.ar:Int)≤2147483647) :
 Calls Tryz.prog 48 #[.pointer (some ⟨P,0,none⟩),.slice a len cap] w fun e w'=>e=.returned .nilIface∧Hid (PrD A S w w' P n ae (eE b {p with known:=true,goal:=h}) (Mx.Mir.bQ {p with known:=true,goal:=h})):=by
 have HM:=aa hm;have HP:=aa hp;have HL:=aa hl;have HF:=aa hF;clear hF;have HS:=aa hs;have HK:=aa hk;have HBM:=aa hb;have HGL:=aa hgl;have HHV:=aa hh;clear hs hk hb hgl hh;clear hm hp hl;go_enter Tryz.func48,Tryz.ntmps48;go_wp2_with fail;refine(cT a len cap l w HL.o hlen hcap).mono ?_;rintro e w1 ht;obtain⟨a1,c1,a2,c2,rfl,hi1,hE1⟩:∃ a1 c1 a2 c2,e=.returned (.tuple #[.agg #[.int .i64 3,.slice a1 [(s:Int),(h:Int)].length c1,.slice a2 0 c2],.nilIface])∧ay w1 a1 [(s:Int),(h:Int)].length [(s:Int),(h:Int)]∧Gq w w1:=by
  rcases ht with ⟨kind',nums',nb',bs',a1,c1,a2,c2,he,hf,hi1,_,_,_,_,_,hE⟩|⟨_,hno,_⟩
  ·obtain⟨rfl,rfl,rfl,rfl⟩:=Mx.aE.one HF.o hf
   exact⟨a1,c1,a2,c2,he,hi1,hE⟩
  ·exact absurd HF.o (hno _ _ _ _)
 have HE1:=aa hE1;have HI1:=aa hi1;clear ht hi1 hE1;obtain⟨W2,hW2⟩:∃ W2:World,Hid (W2=w1.alloc (.cells #[.int .i64 3,.slice a1 2 c1,.slice a2 0 c2] 173)):=⟨_,rfl⟩
 have D2:=beA hW2;have C2:=bxA hW2;have F2:=aa (show Gq w W2 from HE1.o.trans (D2.o.mono HE1.o.size));go_upto_region 2 with fail
 rw[←hW2.o];obtain⟨ib,io,hia,hib,hic⟩:=HI1.o.2.2 (by simp);subst hia;have j0:W2.cell? ⟨ib,io,none⟩=some (.int .i64 (s:Int)):=(D2.o.cell (p:=⟨ib,io,none⟩) hib).trans (by simpa using hic 0 (by simp));have j1:W2.cell? ⟨ib,io+1,none⟩=some (.int .i64 (h:Int)):=(D2.o.cell (p:=⟨ib,io+1,none⟩) hib).trans (by simpa using hic 1 (by simp));clear hic;have HP2:=aa (HP.o.later F2.o);have M2:=aa (HM.o.later F2.o);obtain⟨g,oa,on,oc,sa,sn,sc,m,qa,qn,qc,ha,hn,hc,X⟩:=HP2.o;have HX:=aa X;clear X;obtain⟨x0,x1,x2,x3,x4,x5,x6,x7,x8,x9,x10,x11,x12,x13⟩:=HX.o.bx.cells;obtain⟨f0,f1,f2⟩:=C2.o.three;rw[HK.o] at x11;have xz:=Bx.frozen HX.o.bx;have hde:((s:Int)==(p.s:Int))=true:=by rw[HS.o];simp
 have hde2:(s==p.s)=true:=by rw[HS.o];simp
 clear x0 x1 x2 x3 x4 x5 x6 x7 x9 x10 x13;obtain⟨W3,hW3⟩:∃ W3:World,Hid (W3=(W2.setCell ⟨P,11,none⟩ (.bool true)).setCell ⟨P,12,none⟩ (.int .i64 (h:Int))):=⟨_,rfl⟩
 have G3:=aa (show W2.grownBy W3 (some P) by rw[hW3.o];exact ak (ak (aq _ _) _ _) _ _);have Z3:=aa (Ex.one G3.o);have X3:=aa (show Pbx W3 P g n b.num oa on oc sa sn sc b.be m (p.safe:Int) (p.s:Int) (p.base:Int) qa qn qc true (h:Int) ha hn hc by
  rw[hW3.o];exact(Bx.set HX.o.bx 11 _).set 12 _)
 have M3:=aa (M2.o.dZ Z3.o X3.o fm);have hSP:∀ b,b=P→S b:=fun b e=>by rw[e];exact HX.o.sub _ HX.o.aP
 have R3:=aa (show PrR S W3 n ae b {p with known:=true,goal:=h} g oa on oc sa sn sc m qa qn qc ha hn hc from by
  have hr:=HX.o.r.ext Z3.o hSP (fun e=>HX.o.ne.1 e.symm) (fun e=>HX.o.ne.2.1 e.symm);exact⟨hr.nd,hr.bu,hr.mp,hr.qu,hr.qc,hr.hd,hr.hc,hr.num⟩)
 have PW:=aa (show PrW A S W3 P n ae b {p with known:=true,goal:=h} from⟨g,oa,on,oc,sa,sn,sc,m,qa,qn,qc,ha,hn,hc,X3.o,R3.o,HX.o.aP,HX.o.ag,HX.o.am,HX.o.sub⟩);have E3:=aa (show Ex A w W3 from(Ex.below (S:=A) F2.o).chain Z3.o (fun b _ e=>by rw[e];exact HX.o.aP));go_upto_region 13 with fail
 rw[←hW3.o];clear f0 f1 f2 j0 j1 x8 x11 x12 xz;go_wp2_with fail;refine(gC A S P n ae b {p with known:=true,goal:=h} W3 M3.o PW.o HBM.o (fun _=>HGL.o) HHV.o).mono ?_;rintro e w8 ⟨rfl,P8⟩;go_wp2_with fail;exact bodyPost_ret (v:=.nilIface) (by simp[results,Tryz.results48,go_sem]) rfl ⟨rfl,aa ⟨P8.o.mu,P8.o.pr,E3.o.trans P8.o.ext⟩⟩
theorem wT (A S:Nat→Prop) (P n:Nat) (ae:List (List B8)) (b:Bu) (p:Pf_) (w:World) (hm:Mut S w) (hp:PrW A S w P n ae b p) (a:Option Addr) (len cap:Nat) (l:List Int) (hl:Bytes w a len l) (hlen:len≤2000) (hcap:len≤cap) (s h:Nat) (hF:Mx.aE l 3 [(s:Int),(h:Int)] 0 []) (hs:s≠p.s∨p.known=true) (hb:Mx.aK b n=0) (hgl:p.known=true→p.goal≤p.ar) (hh:(p.ar:Int)≤2147483647) (hsd:Mx.bD ⟨(p.s:Int),(p.base:Int),p.queue⟩=0) (G:Nat) (hG:Mx.iU (p.s:Int) (p.base:Int) p.queue.length l G) :
 Calls Tryz.prog 48 #[.pointer (some ⟨P,0,none⟩),.slice a len cap] w fun e w'=>e=.returned .nilIface∧Hid (PrD A S w w' P n ae (eE b {p with base:=p.base+G,queue:=p.queue.drop G}) (Mx.Mir.bQ {p with base:=p.base+G,queue:=p.queue.drop G})):=by
 have HM:=aa hm;have HP:=aa hp;have HL:=aa hl;have HF:=aa hF;clear hF;have HS:=aa hs;clear hs;have HBM:=aa hb;have HGL:=aa hgl;have HHV:=aa hh;have HSD:=aa hsd;have HG:=aa hG;clear hb hgl hh hsd hG;clear hm hp hl;go_enter Tryz.func48,Tryz.ntmps48;go_wp2_with fail;refine(cT a len cap l w HL.o hlen hcap).mono ?_;rintro e w1 ht;obtain⟨a1,c1,a2,c2,rfl,hi1,hE1⟩:∃ a1 c1 a2 c2,e=.returned (.tuple #[.agg #[.int .i64 3,.slice a1 [(s:Int),(h:Int)].length c1,.slice a2 0 c2],.nilIface])∧ay w1 a1 [(s:Int),(h:Int)].length [(s:Int),(h:Int)]∧Gq w w1:=by
  rcases ht with ⟨kind',nums',nb',bs',a1,c1,a2,c2,he,hf,hi1,_,_,_,_,_,hE⟩|⟨_,hno,_⟩
  ·obtain⟨rfl,rfl,rfl,rfl⟩:=Mx.aE.one HF.o hf
   exact⟨a1,c1,a2,c2,he,hi1,hE⟩
  ·exact absurd HF.o (hno _ _ _ _)
 have HE1:=aa hE1;have HI1:=aa hi1;clear ht hi1 hE1;obtain⟨W2,hW2⟩:∃ W2:World,Hid (W2=w1.alloc (.cells #[.int .i64 3,.slice a1 2 c1,.slice a2 0 c2] 173)):=⟨_,rfl⟩
 have D2:=beA hW2;have C2:=bxA hW2;have F2:=aa (show Gq w W2 from HE1.o.trans (D2.o.mono HE1.o.size));go_upto_region 2 with fail
 rw[←hW2.o];obtain⟨ib,io,hia,hib,hic⟩:=HI1.o.2.2 (by simp);subst hia;have j0:W2.cell? ⟨ib,io,none⟩=some (.int .i64 (s:Int)):=(D2.o.cell (p:=⟨ib,io,none⟩) hib).trans (by simpa using hic 0 (by simp));have j1:W2.cell? ⟨ib,io+1,none⟩=some (.int .i64 (h:Int)):=(D2.o.cell (p:=⟨ib,io+1,none⟩) hib).trans (by simpa using hic 1 (by simp));clear hic;have HP2:=aa (HP.o.later F2.o);have M2:=aa (HM.o.later F2.o);obtain⟨g,oa,on,oc,sa,sn,sc,m,qa,qn,qc,ha,hn,hc,X⟩:=HP2.o;have HX:=aa X;clear X;obtain⟨x0,x1,x2,x3,x4,x5,x6,x7,x8,x9,x10,x11,x12,x13⟩:=HX.o.bx.cells;obtain⟨f0,f1,f2⟩:=C2.o.three;have FV:=aa F2.o;have HLV:=aa (HL.o.later F2.o);clear x0 x1 x2 x3 x4 x5 x6 x7 x12 x13;obtain⟨kn,hkn⟩:∃ kn:Bool,Hid (kn=p.known):=⟨_,rfl⟩
 rw[←hkn.o] at x11;cases kn with
 | true =>
  go_upto_region 5 with fail
  refine phd (aa (HP.o.later FV.o)) (aa (HM.o.later FV.o)) HLV hlen hcap FV HSD HG (by assumption) ?_;intro v8 v9 Km Ko Kp Kg Kq Ks Kt Ku Kv Kw Kx Ky Kz KA KC KD x' H;go_wp2_with fail;refine(gC A S P n ae b {p with base:=p.base+G,queue:=p.queue.drop G} x' H.o.1 H.o.2.1 HBM.o HGL.o HHV.o).mono ?_;rintro e w8 ⟨rfl,P8⟩;go_wp2_with fail;exact bodyPost_ret (v:=.nilIface) (by simp[results,Tryz.results48,go_sem]) rfl ⟨rfl,aa ⟨P8.o.mu,P8.o.pr,H.o.2.2.trans P8.o.ext⟩⟩
 | false =>
  have hsn:s≠p.s:=by
   rcases HS.o with h9|h9
   ·exact h9
   ·rw[←hkn.o] at h9
    cases h9
  have hde:((s:Int)==(p.s:Int))=false:=by simp;omega
  have hde2:(s==p.s)=false:=by simp;omega
  clear hsn;go_upto_region 5 with fail
  refine phd (aa (HP.o.later FV.o)) (aa (HM.o.later FV.o)) HLV hlen hcap FV HSD HG (by assumption) ?_;intro v8 v9 Km Ko Kp Kg Kq Ks Kt Ku Kv Kw Kx Ky Kz KA KC KD x' H;go_wp2_with fail;refine(gC A S P n ae b {p with base:=p.base+G,queue:=p.queue.drop G} x' H.o.1 H.o.2.1 HBM.o HGL.o HHV.o).mono ?_;rintro e w8 ⟨rfl,P8⟩;go_wp2_with fail;exact bodyPost_ret (v:=.nilIface) (by simp[results,Tryz.results48,go_sem]) rfl ⟨rfl,aa ⟨P8.o.mu,P8.o.pr,H.o.2.2.trans P8.o.ext⟩⟩
theorem pY (A S:Nat→Prop) (P n:Nat) (ae:List (List B8)) (b:Bu) (p:Pf_) (w:World) (hm:Mut S w) (hp:PrW A S w P n ae b p) (a:Option Addr) (len cap:Nat) (l:List Int) (hl:Bytes w a len l) (hlen:len≤2000) (hcap:len≤cap) (s k:Nat) (hF:Mx.aE l 0 [(s:Int),(k:Int)] 0 []) (hb:Mx.aK b n=0) (hgl:p.known=true→p.goal≤p.ar) (hh:(p.ar:Int)≤2147483647) (hsd:Mx.bD ⟨(p.s:Int),(p.base:Int),p.queue⟩=0) (G:Nat) (hG:Mx.iU (p.s:Int) (p.base:Int) p.queue.length l G) :
 Calls Tryz.prog 48 #[.pointer (some ⟨P,0,none⟩),.slice a len cap] w fun e w'=>e=.returned .nilIface∧Hid (PrD A S w w' P n ae (eE b {p with base:=p.base+G,queue:=p.queue.drop G}) (Mx.Mir.bQ {p with base:=p.base+G,queue:=p.queue.drop G})):=by
 have HM:=aa hm;have HP:=aa hp;have HL:=aa hl;have HF:=aa hF;clear hF;have HBM:=aa hb;have HGL:=aa hgl;have HHV:=aa hh;have HSD:=aa hsd;have HG:=aa hG;clear hb hgl hh hsd hG;clear hm hp hl;go_enter Tryz.func48,Tryz.ntmps48;go_wp2_with fail;refine(cT a len cap l w HL.o hlen hcap).mono ?_;rintro e w1 ht;obtain⟨a1,c1,a2,c2,rfl,hi1,hE1⟩:∃ a1 c1 a2 c2,e=.returned (.tuple #[.agg #[.int .i64 0,.slice a1 [(s:Int),(k:Int)].length c1,.slice a2 0 c2],.nilIface])∧ay w1 a1 [(s:Int),(k:Int)].length [(s:Int),(k:Int)]∧Gq w w1:=by
  rcases ht with ⟨kind',nums',nb',bs',a1,c1,a2,c2,he,hf,hi1,_,_,_,_,_,hE⟩|⟨_,hno,_⟩
  ·obtain⟨rfl,rfl,rfl,rfl⟩:=Mx.aE.one HF.o hf
   exact⟨a1,c1,a2,c2,he,hi1,hE⟩
  ·exact absurd HF.o (hno _ _ _ _)
 have HE1:=aa hE1;have HI1:=aa hi1;clear ht hi1 hE1;obtain⟨W2,hW2⟩:∃ W2:World,Hid (W2=w1.alloc (.cells #[.int .i64 0,.slice a1 2 c1,.slice a2 0 c2] 173)):=⟨_,rfl⟩
 have D2:=beA hW2;have C2:=bxA hW2;have F2:=aa (show Gq w W2 from HE1.o.trans (D2.o.mono HE1.o.size));go_upto_region 2 with fail
 rw[←hW2.o];have HP2:=aa (HP.o.later F2.o);have M2:=aa (HM.o.later F2.o);obtain⟨g,oa,on,oc,sa,sn,sc,m,qa,qn,qc,ha,hn,hc,X⟩:=HP2.o;have HX:=aa X;clear X;obtain⟨x0,x1,x2,x3,x4,x5,x6,x7,x8,x9,x10,x11,x12,x13⟩:=HX.o.bx.cells;obtain⟨f0,f1,f2⟩:=C2.o.three;have FV:=aa F2.o;have HLV:=aa (HL.o.later F2.o);clear x0 x1 x2 x3 x4 x5 x6 x7 x11 x12 x13;go_upto_region 5 with fail
 refine phd (aa (HP.o.later FV.o)) (aa (HM.o.later FV.o)) HLV hlen hcap FV HSD HG (by assumption) ?_;intro v8 v9 Km Ko Kp Kg Kq Ks Kt Ku Kv Kw Kx Ky Kz KA KC KD x' H;go_wp2_with fail;refine(gC A S P n ae b {p with base:=p.base+G,queue:=p.queue.drop G} x' H.o.1 H.o.2.1 HBM.o HGL.o HHV.o).mono ?_;rintro e w8 ⟨rfl,P8⟩;go_wp2_with fail;exact bodyPost_ret (v:=.nilIface) (by simp[results,Tryz.results48,go_sem]) rfl ⟨rfl,aa ⟨P8.o.mu,P8.o.pr,H.o.2.2.trans P8.o.ext⟩⟩
end
section
open Go.RowKit
theorem CJ {bs:List Int} {nb:Nat} (h1:bs.length=8*nb) (h2:∀ x∈bs,0≤x∧x≤255) (h3:nb≤32):∃ w a,aS w a nb bs:=by
 refine⟨(default:World).alloc (.cells (bs.map (Value.int .u8)).toArray 0),some ⟨(default:World).heap.size,0,none⟩,h1,by rw[aC];omega,h2,fun _=>⟨_,0,rfl,by simp,fun i hi=>?_⟩⟩;have hb:=Bx.new (default:World) (bs.map (Value.int .u8)).toArray 0;rw[Nat.zero_add,hb.cell i];rw[Ga,F0 (by omega)];simp[show i<bs.length by omega]
theorem Mx.aE.facts {l:List Int} {k:Int} {ns:List Int} {nb:Nat} {bs:List Int} (h:Mx.aE l k ns nb bs):l.length≤2000∧0<l.length∧∀ x∈l,0≤x∧x≤255:=by
 obtain⟨h1,h2,h3,rfl⟩:=h;obtain⟨w,a,hb⟩:=CJ h2 h3 (du h1).2.2.2.1;exact⟨wM hb h1,dN _ _ _ _,eS hb h1⟩
theorem Mx.eN {k:Int} {ns:List Int} (h:Mx.may k ns 0=0):Mx.aE (Mx.aY k ns 0 []) k ns 0 []:=⟨h,rfl,by simp,rfl⟩
theorem Mx.wm {k:Int} {s:Nat} (h0:0≤k) (h1:k≤15) (hs:(s:Int)≤2147483647):Mx.may k [(s:Int)] 0=0:=by
 refine Mx.lG (by omega) (by simp) fun j hj=>?_
 simp at hj;subst hj;unfold Mx.bj;simp;omega
theorem Mx.rk {k:Int} {s t:Nat} (h0:0≤k) (h1:k≤15) (hs:(s:Int)≤2147483647) (ht:(t:Int)≤2147483647):Mx.may k [(s:Int),(t:Int)] 0=0:=by
 refine Mx.lG (by omega) (by simp) fun j hj=>?_
 simp at hj
 match j,hj with
 | 0, _ => unfold Mx.bj; simp; omega
 | 1, _ => unfold Mx.bj; simp; omega
theorem gy {n:Int} {b:Bu} {ae:List (List B8)} {now:List B8} (h:Mx.gk n b ae now) (p:Pf_):Mx.gk n (eE b p) ae now:=by
 unfold eE;split
 ·exact Mx.yw h
 ·exact h
theorem oS (p:Pf_):({p with base:=p.base+0,queue:=p.queue.drop 0}:Pf_)=p:=rfl
theorem sC {l:List Int} {k:Int} {ns:List Int} (h:Mx.aE l k ns 0 []) {ses:Int} (hn:¬(k=0∧∃ x,ns=[ses,x])) (base:Int) (qn:Nat):Mx.iU ses base qn l 0:=.inr ⟨fun x hx=>hn (by
 obtain⟨h1,h2,_⟩:=Mx.aE.one h hx;exact⟨h1,x,h2⟩),rfl⟩
theorem zv (A S:Nat→Prop) (P n c:Nat) (ae:List (List B8)) (now:List B8) (b:Bu) (p:Pf_) (o:Of_) (r:Rc_) (ls:List Lt_) (w:World) (hm:Mut S w) (hp:PrW A S w P n ae b p) (I:Mx.PaI n c ae now b p o r ls) (l:Lt_) (hl:l∈ls) (a:Option Addr) (len cap:Nat) (bs:List Int) (hb:Bytes w a len bs) (hlen:len≤2000) (hcap:len≤cap) (g:Bool) (hmean:Mx.fi false g bs l) :
 Calls Tryz.prog 48 #[.pointer (some ⟨P,0,none⟩),.slice a len cap] w fun e w'=>e=.returned .nilIface∧Hid (∃ b',PrD A S w w' P n ae b' (Mx.Mir.ev [] p o r l).1∧Mx.gk (n:Int) b' ae now):=by
 have hok:=I.bA.2 l hl;have hM:=I.liv.may;have hh:=I.hh;have hs:=I.hs;have hc:=I.hc;have hgl:p.known=true→p.goal≤p.ar:=fun hk=>by rw[I.bA.1.Cv hk];exact I.bA.1.to_
 cases l with
 | dV =>
  refine(wS A S P n ae b p w hm hp a len cap bs hb hlen hcap hmean.2).mono ?_;rintro e w' ⟨h1,h2⟩;exact⟨h1,aa ⟨b,h2.o,I.liv⟩⟩
 | opn s => exact absurd hmean.2.1 (by simp)
 | msg s k f => exact absurd hmean.2.1 (by simp)
 | gone s =>
  by_cases h1:s=p.s
  ·have e1:(Mx.Mir.ev [] p o r (.gone s)).1=Mx.Mir.opened [] p:=by simp only[Mx.Mir.ev];rw[if_pos h1]
   rw[e1];refine(wR A S P n ae b p w hm hp a len cap bs hb hlen hcap s hmean.2.2 h1 (by omega) (by omega)).mono ?_;rintro e w' ⟨h1,h2⟩;exact⟨h1,aa ⟨b,h2.o,I.liv⟩⟩
  ·have e1:(Mx.Mir.ev [] p o r (.gone s)).1=Mx.Mir.bQ p:=by simp only[Mx.Mir.ev];rw[if_neg h1]
   rw[e1];refine(wU A S P n ae b p w hm hp a len cap bs hb hlen hcap s hmean.2.2 h1 hM hgl (by omega) I.sd 0 (sC hmean.2.2 (by simp) _ _)).mono ?_;rintro e w' ⟨h1,h2⟩;have h3:=h2.o;rw[oS] at h3;exact⟨h1,aa ⟨_,h3,gy I.liv p⟩⟩
 | hav s h =>
  by_cases h1:s=p.s∧p.known=false
  ·have e1:(Mx.Mir.ev [] p o r (.hav s h)).1=Mx.Mir.bQ {p with known:=true,goal:=h}:=by simp only[Mx.Mir.ev];rw[if_pos h1]
   rw[e1];have h3:=hok.2 h1.1 h1.2;have h4:=I.bA.1.back;refine(zw A S P n ae b p w hm hp a len cap bs hb hlen hcap s h hmean.2.2 h1.1 h1.2 hM (by omega) (by omega)).mono ?_;rintro e w' ⟨h1,h2⟩;exact⟨h1,aa ⟨_,h2.o,gy I.liv _⟩⟩
  ·have e1:(Mx.Mir.ev [] p o r (.hav s h)).1=Mx.Mir.bQ p:=by simp only[Mx.Mir.ev];rw[if_neg h1]
   rw[e1];have h2:s≠p.s∨p.known=true:=by
    by_cases h3:s=p.s
    ·right
     cases hk:p.known with
     | true => rfl
     | false => exact absurd ⟨h3, hk⟩ h1
    ·exact .inl h3
   refine(wT A S P n ae b p w hm hp a len cap bs hb hlen hcap s h hmean.2.2 h2 hM hgl (by omega) I.sd 0 (sC hmean.2.2 (by simp) _ _)).mono ?_;rintro e w' ⟨h1,h2⟩;have h3:=h2.o;rw[oS] at h3;exact⟨h1,aa ⟨_,h3,gy I.liv p⟩⟩
 | ack s k =>
  by_cases h1:s=p.s
  ·have e1:(Mx.Mir.ev [] p o r (.ack s k)).1=Mx.Mir.bQ {p with base:=p.base+Mx.Mir.fv p.base k p.queue.length,queue:=p.queue.drop (Mx.Mir.fv p.base k p.queue.length)}:=by simp only[Mx.Mir.ev];rw[if_pos h1]
   rw[e1];refine(pY A S P n ae b p w hm hp a len cap bs hb hlen hcap s k hmean.2.2 hM hgl (by omega) I.sd (Mx.Mir.fv p.base k p.queue.length) (.inl ⟨(k:Int),by rw[←h1];exact hmean.2.2,(Mx.CO _ _ _).symm⟩)).mono ?_;rintro e w' ⟨h1,h2⟩;exact⟨h1,aa ⟨_,h2.o,gy I.liv _⟩⟩
  ·have e1:(Mx.Mir.ev [] p o r (.ack s k)).1=Mx.Mir.bQ p:=by simp only[Mx.Mir.ev];rw[if_neg h1]
   rw[e1];refine(pY A S P n ae b p w hm hp a len cap bs hb hlen hcap s k hmean.2.2 hM hgl (by omega) I.sd 0 (sC hmean.2.2 (by simp;omega) _ _)).mono ?_;rintro e w' ⟨h1,h2⟩;have h3:=h2.o;rw[oS] at h3;exact⟨h1,aa ⟨_,h3,gy I.liv p⟩⟩
def kf (S:Nat→Prop) (w:World) (v:Value):Option Lt_→Prop
 | none => v = .slice none 0 0
 | some l => ∃ a c bs, v = .slice (some a) (List.length bs) c ∧ Byo S w (some a) bs.length bs ∧ bs.length ≤ c ∧ Mx.fi false false bs l
theorem kf.of {S:Nat→Prop} {w:World} {v:Value} {l:Lt_} {bs:List Int} (h:cU S w v (some bs)) (hm:Mx.fi false false bs l):kf S w v (some l):=by
 obtain⟨a,c,h1,h2,h3⟩:=h;exact⟨a,c,bs,h1,h2,h3,hm⟩
theorem OtW.fg {B S:Nat→Prop} {w:World} {O n:Nat} {ae:List (List B8)} {o:Of_} (h:OtW B S w O n ae o):o.bG=decide (o.want=2147483647):=by
 obtain⟨g,na,nn,nc,ha,hn,hc,X⟩:=h;exact X.r.fg
section
variable {n c:Nat} {ae:List (List B8)} {now:List B8} {b:Bu} {p:Pf_} {o:Of_} {r:Rc_} {ls:List Lt_}
theorem CZ {u:Mx.Upd} {j:Nat}:((u.msgs.take j).map Fr.al).flatten.length≤u.qs.length+2:=by
 have h1:=u.pR;have h2:u.msgs=u.msgs.take j++u.msgs.drop j:=(List.take_append_drop j _).symm;rw[h2,List.map_append,List.flatten_append] at h1;have h3:=congrArg List.length h1;rw[Ge,u.gQ] at h3;omega
end
theorem zh (B S:Nat→Prop) (O n c:Nat) (ae:List (List B8)) (now:List B8) (b:Bu) (p:Pf_) (o:Of_) (r:Rc_) (ls:List Lt_) (I:Mx.PaI n c ae now b p o r ls) (hf:o.bG=false) (f:Fr) (hms:r.ms[r.j]?=some f) (w:World) (hm:Mut S w) (ho:OtW B S w O n ae o) (a1:Option Addr) (n1 c1:Nat) (a2:Option Addr) (c2:Nat) (hi:ay w a1 n1 f.al) (hk:aS w a2 f.nb f.bs) (hc2:f.nb≤c2) :
 Calls Tryz.prog 128 #[.pointer (some ⟨O,0,none⟩),.agg #[.int .i64 f.kind,.slice a1 n1 c1,.slice a2 f.nb c2]] w fun e w'=>e=.returned .nilIface∧Hid (OtD B S w w' O n ae (if r.j+1=r.ms.length then {o with back:=r.to_,got:=[],had:=r.eL} else {o with got:=o.got++[f]})):=by
 have hjl:r.j<r.ms.length:=(Gh.1 hms).1;have hne:r.ms≠[]:=by intro e;rw[e] at hjl;simp at hjl
 have hG:=I.bA.1.vN hne;have hto:=I.bA.1.to_;have hlt:=I.bA.1.later hne;have hbk:=I.bA.1.before hjl;have hgot:=I.bA.1.got hf;rw[if_neg (by omega)] at hgot;have hhad:=I.bA.1.had hf;rw[if_neg (by omega)] at hhad;have hh:=I.hh;have hs:=I.hs;have hc:=I.hc;have hses:=I.bA.1.ses;obtain⟨u,base,fin,g1,g2,g3,g4,g5,g6,g7,g8,g9,g10,g11,g12,g13,g14⟩:=hG;have hin:=Mx.Upd.uR (u:=u) (f:=f) (by rw[←g1];exact Gp hms);have hpos:=Mx.wu hin.1;have h9:=Mx.jO hin.1;have hgl:(eu o).length≤u.qs.length+2:=by unfold eu;rw[hgot,g1];exact CZ
 have hn1:n1=f.al.length:=hi.1.symm;by_cases hj:r.j+1=r.ms.length
 ·rw[if_pos hj]
  obtain⟨k1,k2,k3⟩:=Mx.Upd.pP (u:=u) (i:=r.j) (f:=f) (by rw[←g1];exact hms) (by rw[←g1];exact hj);rw[k1];have hall:eu o++f.al=u.from_::(r.to_:Int)::(u.qs.map fun q=>(Mx.cV q).toNat).map (fun x:Nat=>(x:Int)):=by
   have h1:=u.pR;have h2:u.msgs=u.msgs.take r.j++[f]:=by
    have h3:=List.take_append_drop r.j u.msgs;rw[←g1] at h3 ⊢;rw[List.drop_eq_getElem_cons hjl,List.drop_of_length_le (by omega)] at h3;rw[F0 hjl] at hms;rw[Gg hms] at h3;exact h3.symm
   unfold eu;rw[hgot,g1];have h5:((u.msgs.take r.j).map Fr.al).flatten++f.al=u.al:=by
    rw[←h1]
    conv=>rhs;rw[h2]
    rw[List.map_append,List.flatten_append];simp
   rw[h5];unfold Mx.Upd.al;rw[g4,List.map_map];congr 2
   refine List.map_congr_left fun q hq=>?_
   have:=(Mx.lV (g2 q hq)).1;show _=((Mx.cV q).toNat:Int)
   omega
  have hdec:Mx.fV ((u.qs.map fun q=>(Mx.cV q).toNat).map (fun x:Nat=>(x:Int))) (Mx.bH u.qs)=some u.qs:=by
   rw[List.map_map,←Mx.uC u.qs g2];congr 1
   refine List.map_congr_left fun q hq=>?_
   have:=(Mx.lV (g2 q hq)).1;show((Mx.cV q).toNat:Int)=_
   omega
  have hbl:=Mx.sg u.qs;refine(wI B S O n ae o w hm ho a1 n1 c1 a2 f.nb c2 f.al hi (by omega) (by omega) (by omega) (Mx.bH u.qs) (aS.bl (by rw[←k3];exact hk) k2.symm) hc2 (by omega) u.from_ r.to_ _ u.qs hall hdec (fun x hx=>?_) (by omega) I.n1 I.n2 base fin ?_ g12 (by rw[hhad];exact g6) g7 (by rw[hhad];exact g8) g9 (by rw[hhad];exact g10) (by omega) (by omega) (by omega)).mono ?_
  ·obtain⟨q,hq,rfl⟩:=List.mem_map.1 hx
   have:=Mx.lV (g2 q hq);omega
  ·rcases g5 with h|⟨h1,h2,h3⟩
   ·exact .inl h
   ·exact .inr ⟨by rw[hbk];exact h1,h2,by rw[hbk];exact h3⟩
  ·rintro e w' ⟨h1,h2⟩
   refine⟨h1,?_⟩;have h3:=h2.o;rw[hhad,←g11] at h3;exact aa h3
 ·rw[if_neg hj]
  obtain⟨k1,k2,k3⟩:=Mx.Upd.pS (u:=u) (i:=r.j) (f:=f) (by rw[←g1];exact hms) (by rw[←g1];omega);rw[k1];refine(wJ B S O n ae o w hm ho a1 n1 c1 a2 f.nb c2 f.al hi (by omega) (by omega) (by omega) f.bs).mono ?_;rintro e w' ⟨h1,h2⟩;refine⟨h1,?_⟩;have h3:=h2.o;have e1:(⟨0,f.al,f.nb,f.bs⟩:Fr)=f:=by rw[←k1]
  rw[e1] at h3;exact aa h3
theorem yV (B S:Nat→Prop) (O n c:Nat) (ae:List (List B8)) (now:List B8) (b:Bu) (p:Pf_) (o:Of_) (r:Rc_) (ls:List Lt_) (w:World) (hm:Mut S w) (ho:OtW B S w O n ae o) (I:Mx.PaI n c ae now b p o r ls) (l:Lt_) (hl:l∈ls) (a:Option Addr) (len cap:Nat) (bs:List Int) (hb:Bytes w a len bs) (hlen:len≤2000) (hcap:len≤cap) (g:Bool) (hmean:Mx.fi true g bs l) :
 Calls Tryz.prog 49 #[.pointer (some ⟨O,0,none⟩),.slice a len cap] w fun e w'=>∃ v,e=.returned (.tuple #[v,.nilIface])∧Hid (OtD B S w w' O n ae (Mx.Mir.ev [] p o r l).2.1)∧Hid (kf S w' v (Mx.Mir.ev [] p o r l).2.2.2):=by
 have hok:=I.bA.2 l hl;have hh:=I.hh;have hs:=I.hs;have hc:=I.hc;have hses:=I.bA.1.ses;have hback:=I.bA.1.back;have hwt:(o.want:Int)≤2147483647:=by
  cases hf:o.bG with
  | true =>
   have h1:=ho.fg;rw[hf] at h1;have h2:=of_decide_eq_true h1.symm;omega
  | false =>
   have h1:=I.bA.1.want hf;have h2:=I.hb;have h3:=I.bA.1.jl;omega
 cases l with
 | dV =>
  refine(wE B S O n ae o w hm ho a len cap bs hb hlen hcap hmean.2).mono ?_;rintro e w' ⟨v,h1,h2,h3⟩;exact⟨v,h1,h2,h3⟩
 | hav s h => exact absurd hmean.2.1 (by simp)
 | gone s => exact absurd hmean.2.1 (by simp)
 | ack s k => exact absurd hmean.2.1 (by simp)
 | opn s =>
  have hsp:s≤p.s:=hok;refine(wF B S O n ae o w hm ho a len cap bs hb hlen hcap s hmean.2.2 (by omega) (by omega)).mono ?_;rintro e w' ⟨v,h1,h2,h3⟩;refine⟨v,h1,?_,?_⟩
  ·have e1:(Mx.Mir.ev [] p o r (.opn s)).2.1=ey o s:=by
    simp only[Mx.Mir.ev];unfold ey;by_cases k1:s<o.sb
    ·rw[if_pos k1,if_neg (by omega)]
    ·rw[if_neg k1]
     by_cases k2:o.sb<s
     ·rw[if_pos k2,if_pos k2]
      rfl
     ·rw[if_neg k2,if_neg k2]
      split<;>rfl
   rw[e1];exact h2
  ·have h4:=h3.o
   unfold eO at h4;simp only[Mx.Mir.ev];by_cases k1:s<o.sb
   ·rw[if_pos k1] at h4 ⊢
    exact aa h4
   ·rw[if_neg k1] at h4 ⊢
    by_cases k2:o.sb<s
    ·rw[if_pos k2] at h4 ⊢
     exact aa (kf.of h4 ⟨rfl,rfl,Mx.eN (Mx.rk (by omega) (by omega) (by omega) (by omega))⟩)
    ·rw[if_neg k2] at h4 ⊢
     have e2:s=o.sb:=by omega
     by_cases k3:o.bG=true
     ·rw[if_pos k3] at h4 ⊢
      rw[e2] at h4;exact aa (kf.of h4 ⟨rfl,rfl,Mx.eN (Mx.wm (by omega) (by omega) (by omega))⟩)
     ·rw[if_neg k3] at h4 ⊢
      rw[e2] at h4;exact aa (kf.of h4 ⟨rfl,rfl,Mx.eN (Mx.rk (by omega) (by omega) (by omega) (by omega))⟩)
 | msg s k f =>
  have hF:=hmean.2.2;have go:∀ (o1:Of_) (ans:Option (List Int)),(∀ W:World,Mut S W→OtW B S W O n ae o→Bytes W a len bs→Calls Tryz.prog 93 #[.pointer (some ⟨O,0,none⟩),.slice a len cap] W fun e w'=>∃ v,e=.returned (.tuple #[v,.nilIface])∧Hid (OtD B S W w' O n ae o1)∧Hid (cU S w' v ans))→Calls Tryz.prog 49 #[.pointer (some ⟨O,0,none⟩),.slice a len cap] w fun e w'=>∃ v,e=.returned (.tuple #[v,.nilIface])∧Hid (OtD B S w w' O n ae o1)∧Hid (cU S w' v ans) :=
   fun o1 ans hr=>yW B S O n ae o w hm ho a len cap bs hb hlen hcap _ f.nb f.bs hF.1 o1 ans hr
  unfold Mx.Mir.ev;by_cases h1:s≠o.sb
  ·simp only[if_pos h1]
   refine(go o none fun W k1 k2 k3=>zg B S O n ae o W k1 k2 a len cap bs k3 hlen hcap (by omega) hwt (fun x kd nm nb' bs' hx=>?_)).mono ?_
   ·have h2:=(Mx.aE.one hF.1 hx.1).2.1
    simp only[List.cons.injEq] at h2;exact h1 (by omega)
   ·rintro e w' ⟨v,h1,h2,h3⟩
    exact⟨v,h1,h2,h3⟩
  ·simp only[if_neg h1]
   have e1:s=o.sb:=Decidable.not_not.mp h1;subst e1;by_cases h2:o.bG=true
   ·simp only[if_pos h2]
    refine(go o _ fun W k1 k2 k3=>tS B S O n ae o W k1 k2 a len cap bs k3 hlen hcap (by omega) hwt h2 _ _ _ _ _ hF).mono ?_;rintro e w' ⟨v,h1,h2,h3⟩;exact⟨v,h1,h2,aa (kf.of h3.o ⟨rfl,rfl,Mx.eN (Mx.wm (by omega) (by omega) (by omega))⟩)⟩
   ·simp only[if_neg h2]
    have e2:o.bG=false:=by simpa using h2
    by_cases h3:k≠o.want
    ·simp only[if_pos h3]
     refine(go o _ fun W k1 k2 k3=>Bv B S O n ae o W k1 k2 a len cap bs k3 hlen hcap (by omega) hwt e2 _ _ _ _ _ hF (by omega)).mono ?_;rintro e w' ⟨v,h1,h2,h3⟩;exact⟨v,h1,h2,aa (kf.of h3.o ⟨rfl,rfl,Mx.eN (Mx.rk (by omega) (by omega) (by omega) (by omega))⟩)⟩
    ·simp only[if_neg h3]
     have e3:k=o.want:=Decidable.not_not.mp h3;subst e3;obtain⟨hms,hj⟩:=Mx.Mir.wanted I.bA.1 e2 hok;have hw:=I.bA.1.want e2;have hb4:=I.hb;refine(go _ _ fun W k1 k2 k3=>ze B S O n ae o W k1 k2 a len cap bs k3 hlen hcap (by omega) hwt f.kind f.al f.nb f.bs hF (by omega) (if r.j+1=r.ms.length then {o with back:=r.to_,got:=[],had:=r.eL} else {o with got:=o.got++[f]}) ?_ (fun W1 a1 n1 c1 a2 c2 q1 q2 q3 q4 q5 q6=>zh B S O n c ae now b p o r ls I e2 f hms W1 q1 q2 a1 n1 c1 a2 c2 q3 q4 q6)).mono ?_
     ·split
      ·exact⟨rfl,rfl,e2⟩
      ·exact⟨rfl,rfl,e2⟩
     ·rintro e w' ⟨v,h1,h2,h3⟩
      have e4:((o.want:Int)+1)=((o.want+1:Nat):Int):=by omega
      have h5:=h3.o;rw[e4] at h5;have h6:=kf.of (l:=.ack o.sb (o.want+1)) h5 ⟨rfl,rfl,Mx.eN (Mx.rk (by omega) (by omega) (by omega) (by omega))⟩;by_cases h4:r.j+1=r.ms.length
      ·simp only[if_pos h4] at h2 ⊢
       exact⟨v,h1,h2,aa h6⟩
      ·simp only[if_neg h4] at h2 ⊢
       exact⟨v,h1,h2,aa h6⟩
end
section
open Go.RowKit Go.Shelf
attribute [local go_sem] Oper.semAt_some
structure Cn (m:Nat) where
 s:Nat
 q:Nat
 ok:s+q≤m∧q≤9
def fU (m k:Nat):Cn m:=⟨min (k*9) m,min 9 (m-min (k*9) m),by omega,by omega⟩
def cb (m k:Nat):List (Cn m):=(List.range k).map (fU m)
theorem nt (m k:Nat):cb m (k+1)=cb m k++[fU m k]:=by simp[cb,List.range_succ]
theorem jr (m k:Nat):(cb m k).length=k:=by simp[cb]
def oJ (b off:Nat) {m:Nat} (x:Cn m):Array Value:=#[.slice (some ⟨b,off+x.s,none⟩) x.q x.q]
theorem yM (n:Nat) (hn:1≤n) (l Bs Bn n₀ b off cap m:Nat) (hm:m≤1000) (hcap:m≤cap) (J Jx:List (Cn m)→World→Prop)
 (W:World) (_hn₀:n₀≤W.heap.size) (hJ:AbidesFrom W.heap.size J)
 (hY:∀ pre x W,J pre W→pre.length<(m+8)/9→YieldAt Fence.wide (n-1) Tryz.prog l (oJ b off x) W fun e W' =>
   (e=.returned (.bool true)∧J (pre++[x]) W'∧KpC n₀ Bs Bn W W')∨(e=.returned (.bool false)∧Jx (pre++[x]) W'))
 (hBs:W.cell? ⟨Bs,0,none⟩=some (.slice (some ⟨b,off,none⟩) m cap)) (hBn:W.cell? ⟨Bn,0,none⟩=some (.int .i64 9)) (h0:J [] W) :
 CallsIn Fence.wide n Tryz.prog 157 #[.func (.yield l) #[] #[],.pointer (some ⟨Bs,0,none⟩),.pointer (some ⟨Bn,0,none⟩)] W fun e W'=>(∃ v,e=.returned v) ∧
  ((∃ ys,ys=cb m ((m+8)/9)∧J ys W')∨(∃ pre,(∃ k,k≤(m+8)/9∧pre=cb m k)∧Jx pre W')):=by
 refine callsIn_of_wp Tryz.func157 rfl trivial ?_ rfl;simp only[Tryz.ntmps157,List.size_toArray,List.length_cons,List.length_nil,Nat.reduceAdd,Nat.reduceSub,Array.replicate_succ,Array.replicate_zero,List.push_toArray,List.append_toArray,List.nil_append,List.cons_append];gi_wp2
 gi_loopw [4] (fun i wr=>∃ (k I:Nat),Hid (I=k*9)∧Hid (k≤(m+8)/9)∧I≤m+8∧i=.int .i64 (I:Int)∧J (cb m k) wr∧Below n₀ W wr∧wr.heap[Bs]?=W.heap[Bs]?∧wr.heap[Bn]?=W.heap[Bn]?)
  (fun i _=>m+9-(intOf i).toNat)
 case atStart=>exact⟨0,0,rfl,Nat.zero_le _,by omega,rfl,h0,Below.refl _ _,rfl,rfl⟩
 case round =>
  obtain⟨k,I,hI,hkN,hIm,rfl,hJs,hnx,hbs,hbn⟩:=hrel;have HBS:=aa hbs;have HBN:=aa hbn;have hbx:wr.cell? ⟨Bs,0,none⟩=some (.slice (some ⟨b,off,none⟩) m cap):=(World.cell?_of_block (w:=W) (a:=⟨Bs,0,none⟩) hbs).trans hBs;have hby:wr.cell? ⟨Bn,0,none⟩=some (.int .i64 9):=(World.cell?_of_block (w:=W) (a:=⟨Bn,0,none⟩) hbn).trans hBn;clear hbs hbn;by_cases hlt:(I:Int)<m
  ·have hI2:(I:Int)≤cap:=by omega
   have hI3:(I:Int)≤m:=by omega
   obtain⟨x,hx⟩:∃ x:Cn m,Hid (x=fU m k):=⟨_,rfl⟩
   by_cases h4:(9:Int)≤(m:Int)-I
   ·have hxs:x.s=I∧x.q=9:=by
     have h1:=hI.o;rw[hx.o];constructor
     ·show min (k*9) m=I
      omega
     ·show min 9 (m-min (k*9) m)=9
      omega
    obtain⟨W1,hW1⟩:∃ W1:World,W1=wr.drew:=⟨_,rfl⟩
    have hg1:wr.grownBy W1 none:=by
     rw[hW1];exact⟨rfl,rfl,rfl,Gi _,fun i hi _=>rfl⟩
    obtain⟨fn,tmps,assign,body,hy,hR⟩:=hY (cb m k) x W1 (hJ _ wr W1 none hJs hg1 (fun r h=>by cases h)) (by rw[jr];have:=hI.o;omega);unfold oJ at hy;rw[hxs.1,hxs.2] at hy;rw[hW1] at hy hR;have hc4:(I:Int)+9≤cap:=by omega
    have e44:I+9-I=9:=by omega
    gi_wp2
    gi_region
    gi_wp2_with fail;refine hR.mono ?_;have HX:=aa (show cb m (k+1)=cb m k++[x] by rw[nt,hx.o]);have HK:=aa (show k+1≤(m+8)/9 by have:=hI.o;omega);rintro e W3 (⟨rfl,hJ3,hk3⟩|⟨rfl,hJx3⟩)
    ·rw[←HX.o] at hJ3
     have HB3:=aa (show Below n₀ W W3 from hnx.drew.trans hk3.1);have HS3:=aa (show W3.heap[Bs]?=W.heap[Bs]? from hk3.2.1.trans HBS.o);have HN3:=aa (show W3.heap[Bn]?=W.heap[Bn]? from hk3.2.2.trans HBN.o);have hby3:W3.cell? ⟨Bn,0,none⟩=some (.int .i64 9):=(World.cell?_of_block (w:=W) (a:=⟨Bn,0,none⟩) HN3.o).trans hBn;clear hk3;gi_wp2_with fail;go_roundw
     case rel=>exact⟨k+1,I+9,by have:=hI.o;unfold Hid;omega,HK,by omega,by go_num,hJ3,HB3.o,HS3.o,HN3.o⟩
     case measure=>simp[intOf];omega
    ·rw[←HX.o] at hJx3
     gi_wp2
     refine bodyPost_ret (results_none rfl _ _ _) rfl ?_;refine⟨⟨_,rfl⟩,.inr ?_⟩;first
      | exact ⟨_, ⟨k + 1, HK.o, rfl⟩, hJx3⟩
      | exact ⟨k + 1, HK.o, hJx3⟩
   ·obtain⟨d,hd⟩:∃ d:Nat,m-I=d:=⟨_,rfl⟩
    have hd0:(I:Int)+d=m:=by omega
    have hxs:x.s=I∧x.q=d:=by
     have h1:=hI.o;rw[hx.o];constructor
     ·show min (k*9) m=I
      omega
     ·show min 9 (m-min (k*9) m)=d
      omega
    obtain⟨W1,hW1⟩:∃ W1:World,W1=wr.drew:=⟨_,rfl⟩
    have hg1:wr.grownBy W1 none:=by
     rw[hW1];exact⟨rfl,rfl,rfl,Gi _,fun i hi _=>rfl⟩
    obtain⟨fn,tmps,assign,body,hy,hR⟩:=hY (cb m k) x W1 (hJ _ wr W1 none hJs hg1 (fun r h=>by cases h)) (by rw[jr];have:=hI.o;omega);unfold oJ at hy;rw[hxs.1,hxs.2] at hy;rw[hW1] at hy hR;have hc4:(I:Int)+d≤cap:=by omega
    have hd4:(d:Int)<9:=by omega
    have hd1:(0:Int)<d:=by omega
    have e44:I+d-I=d:=by omega
    gi_wp2
    gi_region
    gi_wp2_with fail;refine hR.mono ?_;have HX:=aa (show cb m (k+1)=cb m k++[x] by rw[nt,hx.o]);have HK:=aa (show k+1≤(m+8)/9 by have:=hI.o;omega);rintro e W3 (⟨rfl,hJ3,hk3⟩|⟨rfl,hJx3⟩)
    ·rw[←HX.o] at hJ3
     have HB3:=aa (show Below n₀ W W3 from hnx.drew.trans hk3.1);have HS3:=aa (show W3.heap[Bs]?=W.heap[Bs]? from hk3.2.1.trans HBS.o);have HN3:=aa (show W3.heap[Bn]?=W.heap[Bn]? from hk3.2.2.trans HBN.o);have hby3:W3.cell? ⟨Bn,0,none⟩=some (.int .i64 9):=(World.cell?_of_block (w:=W) (a:=⟨Bn,0,none⟩) HN3.o).trans hBn;clear hk3;gi_wp2_with fail;go_roundw
     case rel=>exact⟨k+1,I+9,by have:=hI.o;unfold Hid;omega,HK,by omega,by go_num,hJ3,HB3.o,HS3.o,HN3.o⟩
     case measure=>simp[intOf];omega
    ·rw[←HX.o] at hJx3
     gi_wp2
     refine bodyPost_ret (results_none rfl _ _ _) rfl ?_;refine⟨⟨_,rfl⟩,.inr ?_⟩;first
      | exact ⟨_, ⟨k + 1, HK.o, rfl⟩, hJx3⟩
      | exact ⟨k + 1, HK.o, hJx3⟩
  ·have HE:=aa (show k=(m+8)/9 by have:=hI.o;have:=hkN.o;omega)
   gi_wp2
   go_end0
   have hJe:J (cb m ((m+8)/9)) wr:=by rw[←HE.o];exact hJs
   refine⟨⟨_,rfl⟩,.inl ?_⟩;first
    | exact hJe
    | exact ⟨_, rfl, hJe⟩
theorem tM (n:Nat) (a:Option Addr) (len cap:Nat) (w:World) :
 CallsIn Fence.wide n Tryz.prog 139 #[.slice a len cap,.int .i64 9] w fun e w'=>e=.returned (.func (.func 157) #[] #[.pointer (some ⟨w.heap.size,0,none⟩),.pointer (some ⟨w.heap.size+1,0,none⟩)])∧w'=(w.alloc (.cells #[.slice a len cap] 47)).alloc (.cells #[.int .i64 9] 3):=by
 refine callsIn_of_wp Tryz.func139 rfl trivial ?_ rfl;simp only[Tryz.ntmps139,List.size_toArray,List.length_cons,List.length_nil,Nat.reduceAdd,Nat.reduceSub,Array.replicate_succ,Array.replicate_zero,List.push_toArray,List.append_toArray,List.nil_append,List.cons_append];gi_wp2
 go_ret;exact⟨rfl,rfl⟩
theorem sy (n:Nat) (hn:1≤n) (Bs Bn n₀ b off cap m:Nat) (hm:m≤1000) (hcap:m≤cap) (w:World) (hn₀:n₀≤w.heap.size) (hBsl:Bs<w.heap.size) (hBnl:Bn<w.heap.size)
 (hBs:w.cell? ⟨Bs,0,none⟩=some (.slice (some ⟨b,off,none⟩) m cap)) (hBn:w.cell? ⟨Bn,0,none⟩=some (.int .i64 9)) :
 SeqStopsK Fence.wide n Tryz.prog 157 #[.pointer (some ⟨Bs,0,none⟩),.pointer (some ⟨Bn,0,none⟩)] (oJ b off (m:=m)) (KpC n₀ Bs Bn) (fun ys=>ys=cb m ((m+8)/9)) (fun pre=>∃ k,k≤(m+8)/9∧pre=cb m k) ((m+8)/9) w:=fun l J Jx W hW hJ _ hY h0 =>
 yM n hn l Bs Bn n₀ b off cap m hm hcap J Jx W (Gn hn₀ hW.size) hJ hY ((hW.cell (p:=⟨Bs,0,none⟩) hBsl).trans hBs) ((hW.cell (p:=⟨Bn,0,none⟩) hBnl).trans hBn) h0
end
section
open Go.RowKit
variable {k:Nat}
namespace Mx
theorem wg {qs:List Pk} {q:Pk} (h:qs[k]?=some q) (h3:q.kind=3):bH (qs.take (k+1))=bH (qs.take k)++[q.d]:=by
 unfold bH;rw[List.take_add_one,h,List.filter_append,List.map_append];simp[h3]
theorem wh {qs:List Pk} {q:Pk} (h:qs[k]?=some q) (h3:¬q.kind=3):bH (qs.take (k+1))=bH (qs.take k):=by
 unfold bH;rw[List.take_add_one,h,List.filter_append,List.map_append];simp[h3]
theorem AK {qs:List Pk} {q:Pk} {f t:Int} (h:qs[k]?=some q):f::t::(qs.take (k+1)).map cV=(f::t::(qs.take k).map cV)++[cV q]:=by
 rw[List.take_add_one,h,List.map_append];simp
theorem pO (qs:List Pk) (k:Nat):(bH (qs.take k)).length≤k:=by
 unfold bH;rw[List.length_map];exact Gn (List.length_filter_le _ _) (by rw[Gk];omega)
end Mx
theorem mm3 {Q:Exit→Act→World→Prop} {w W:World} {frm to_:Int} {qa na:Option Addr} {qn qc nc:Nat} {qs:List Pk} (HQ:Hid (QL w qa qn qs)) (HW:Hid (∀ q∈qs,Mx.QW q)) (hqn:qn≤1000) (XW:Hid (Bx W w.heap.size #[.int .i64 frm,.int .i64 to_,.slice qa qn qc] 213)) (IW:Hid (aV W w.heap.size (.slice na 2 nc) [frm,to_])) (FW:Hid (Gq w W)) {u5 u6 u7 u8 u9 Iy Il Iv Ik Ho Gv Gw Gx Gy Gz GC GD GH GI GJ GK GL GM GO GP GQ GR GS GU GV GX GY GZ Ha Hb Hc He Hf Hg Hh Hi Hj Hk Hl Hm Hn Hp Hq Hr Hs Ht Ia Ib Ic Ie Ig Ih Ii Ij Iw:Value}
 (hQ:∀ (V:World) (na:Option Addr) (nn nc:Nat) (ba:Option Addr) (bn bc:Nat) {v0 v5 v6 v7 v8 v9 Kf Jm Jn Jp Lq Lr Ls Lu KJ KK KL KM Km Ko Kp Kg Kq Ks Kt Ku Kv Kw Kx Ky Kz KA KC KD KO KP KQ KR KS KT KU KW KX KY KZ La Lb Kh Ki Kj Kk Kl Jq Jr Js Jt Ju Jv Jw Jy Jz:Value},Hid (aV V w.heap.size (.slice na nn nc) (frm::to_::qs.map Mx.cV))→Hid (au V w.heap.size (.slice ba bn bc) (Mx.bH qs))→nn=qn+2→bn≤qn→Hid (Gq w V)→cO (Tryz.f114.body.getD .skip) Q 4 ⟨#[v0,.pointer (some ⟨w.heap.size,0,none⟩),.slice none 0 0,.slice na nn nc,.slice ba bn bc,v5,v6,v7,v8,v9,Kf,Jm,Jn,Jp,Lq,Lr,Ls,Lu,KJ,KK,KL,KM,Km,Ko,Kp,Kg,Kq,Ks,Kt,Ku,Kv,Kw,Kx,Ky,Kz,KA,KC,KD,KO,KP,KQ,KR,KS,KT,KU,KW,KX,KY,KZ,La,Lb,Kh,Ki,Kj,Kk,Kl,Jq,Jr,Js,Jt,Ju,Jv,Jw,Jy,Jz],[]⟩ V) :
 cO (Tryz.f114.body.getD .skip) Q 3 ⟨#[.agg #[.int .i64 frm,.int .i64 to_,.slice qa qn qc],.pointer (some ⟨w.heap.size,0,none⟩),.slice none 0 0,.slice na 2 nc,.slice none 0 0,u5,u6,u7,u8,u9,Iy,Il,Iv,Ik,Ho,Gv,Gw,Gx,Gy,Gz,GC,GD,GH,GI,GJ,GK,GL,GM,GO,GP,GQ,GR,GS,GU,GV,GX,GY,GZ,Ha,Hb,Hc,He,Hf,Hg,Hh,Hi,Hj,Hk,Hl,Hm,Hn,Hp,Hq,Hr,Hs,Ht,Ia,Ib,Ic,Ie,Ig,Ih,Ii,Ij,Iw],[]⟩ W:=by
 refine bJ rfl ?_;intro K hK;obtain⟨x0,x1,x2⟩:=XW.o.three;have HN:=aa HQ.o.1;go_upto_region 4 with fail
 go_loopw [3,4,18] (fun s3 s4 t wr=>∃ (k:Nat) (na:Option Addr) (nn nc:Nat) (ba:Option Addr) (bn bc:Nat),k≤qn∧t=.int .i64 (k:Int)∧s3=.slice na nn nc∧s4=.slice ba bn bc∧Hid (nn=k+2)∧Hid (bn=(Mx.bH (qs.take k)).length)∧Hid (aV wr w.heap.size (.slice na nn nc) (frm::to_::(qs.take k).map Mx.cV))∧Hid (au wr w.heap.size (.slice ba bn bc) (Mx.bH (qs.take k)))∧Hid (Gq w wr)) (fun _ _ t _=>qn-(intOf t).toNat)
 case atStart=>exact⟨0,na,2,nc,none,0,0,Nat.zero_le _,rfl,rfl,rfl,aa rfl,aa rfl,IW,aa (World.ownsRow_nil _ _ _ _),FW⟩
 case round =>
  obtain⟨k,na,nn,nc,ba,bn,bc,hk,rfl,rfl,rfl,hnn,hbn,hI,hB,hF⟩:=hrel;by_cases hlt:k<qn
  ·have hlti:(k:Int)<(qn:Int):=by omega
   obtain⟨b,off,q,hab,hblt,hx,c0,c1,c2,c3,c4,c5,c6,c7,c8,c9,c10⟩:=(HQ.o.later hF.o).at_ k hlt;subst hab;have HX:=aa hx;have hqw:=HW.o _ (Gp hx);obtain⟨qat,qk,qf,qd⟩:=q;obtain⟨q1,q2,q3,q4,q5,q6,_⟩:=hqw;dsimp only at c0 c1 c2 c3 c4 c5 c6 c7 c8 c9 c10 q1 q2 q3 q4 q5 q6;clear hx;obtain⟨W4,hW4⟩:∃ W4:World,Hid (W4=wr.alloc (.cells #[.int .i64 qat,.int .i64 qk,.int .i64 qf,.int .u8 qd.z0,.int .u8 qd.z1,.int .u8 qd.z2,.int .u8 qd.z3,.int .u8 qd.z4,.int .u8 qd.z5,.int .u8 qd.z6,.int .u8 qd.z7] 244)):=⟨_,rfl⟩
   have X4:=bxA hW4;have D4:=beA hW4;have I4:=aa (show aV W4 w.heap.size (.slice na nn nc) (frm::to_::(qs.take k).map Mx.cV) by rw[hW4.o];exact World.ownsRow.alloc hI.o _);have B4:=aa (show au W4 w.heap.size (.slice ba bn bc) (Mx.bH (qs.take k)) by rw[hW4.o];exact World.ownsRow.alloc hB.o _);have F4:=aa (show Gq w W4 from hF.o.trans (D4.o.mono hF.o.size));obtain⟨ns,hns⟩:∃ ns:List Int,Hid (ns=frm::to_::(qs.take k).map Mx.cV):=⟨_,rfl⟩
   obtain⟨lb,hlb⟩:∃ lb:List B8,Hid (lb=Mx.bH (qs.take k)):=⟨_,rfl⟩
   rw[←hns.o] at I4;rw[←hlb.o] at B4 hbn;have hLn:=aa (show nn=ns.length by rw[hns.o,hnn.o];simp;have:=HN.o;omega);have hl1:ns.length≤1002:=by have h9:=hLn.o;have h8:=hnn.o;omega
   have hl2:lb.length≤1000:=by have h9:=Mx.pO qs k;rw[←hlb.o] at h9;omega
   clear hI hB;go_upto_region 6 with fail
   rw[←hW4.o];clear c0 c1 c2 c3 c4 c5 c6 c7 c8 c9 c10;obtain⟨p0,p1,p2,p3,p4,p5,p6,p7,p8,p9,p10⟩:=oI X4.o;clear p3 p4 p5 p6 p7 p8 p9 p10;go_wp2_with (at_builtin;refine iu rfl _ _ rfl w.heap.size ns ?o1 ((qat*4+qk)*32+qf) ?o2 ?o3 ?o4 ?_);case o1=>exact I4.o
   case o3=>omega
   case o4=>exact F4.o.size
   intro ad cc w7 hown hgr;have I7:=aa hown;have G7:=aa (show W4.grownBy w7 (Value.slice na nn nc).ownBlock from hgr);clear hown hgr;have X7:=aa (X4.o.grow G7.o (fun e=>aX I4.o X4.o (by decide) e.symm));have B7:=aa (show au w7 w.heap.size (.slice ba bn bc) lb from kG B4.o I4.o (by decide) G7.o);have F7:=aa (show Gq w w7 from F4.o.grown G7.o F4.o.size (fun k hk=>(World.ownsRow.lt I4.o k hk).1));obtain⟨L,hL⟩:∃ L:Nat,Hid (L=ns.length+1):=⟨_,rfl⟩
   rw[←hL.o] at I7 ⊢;have HE:=aa (Mx.AK (f:=frm) (t:=to_) HX.o);clear p0 p1 p2;obtain⟨p0,p1,p2,p3,p4,p5,p6,p7,p8,p9,p10⟩:=oI X7.o;clear p0 p2;by_cases h3:qk=3
   ·have HL:=aa (Mx.wg HX.o h3)
    subst h3;go_wp2_with (at_builtin;refine ir rfl _ _ rfl w.heap.size lb ?zb1 qd ?zb2 ?zb3 ?zb4 ?_);case zb1=>exact B7.o
    case zb3=>omega
    case zb4=>exact F7.o.size
    intro g8 c8 w8 _ _ hown hgr;have B8:=aa hown;have G8:=aa (show w7.grownBy w8 (Value.slice ba bn bc).ownBlock from hgr);clear hown hgr;have I8:=aa (show aV w8 w.heap.size (.slice (some ad) L cc) (ns++[(qat*4+3)*32+qf]) from kG I7.o B7.o (by decide) G8.o);have F8:=aa (show Gq w w8 from F7.o.grown G8.o F7.o.size (fun k hk=>(World.ownsRow.lt B7.o k hk).1));obtain⟨M,hM⟩:∃ M:Nat,Hid (M=lb.length+1):=⟨_,rfl⟩
    rw[←hM.o] at B8 ⊢;clear p1 p3 p4 p5 p6 p7 p8 p9 p10;go_wp2_with fail;go_roundw
    case rel=>exact⟨k+1,some ad,L,cc,some ⟨g8,0,none⟩,M,c8,by omega,by go_num,rfl,rfl,aa (by rw[hL.o,←hLn.o,hnn.o]),aa (by rw[hM.o,HL.o,←hlb.o];simp),aa (by rw[HE.o,←hns.o];exact I8.o),aa (by rw[HL.o,←hlb.o];exact B8.o),F8⟩
    case measure=>simp[intOf];omega
   ·have HL:=aa (Mx.wh HX.o h3)
    have h3d:(qk==3)=false:=by simpa using h3
    go_wp2_with fail;go_roundw
    case rel=>exact⟨k+1,some ad,L,cc,ba,bn,bc,by omega,by go_num,rfl,rfl,aa (by rw[hL.o,←hLn.o,hnn.o]),aa (by rw[HL.o,←hlb.o];exact hbn.o),aa (by rw[HE.o,←hns.o];exact I7.o),aa (by rw[HL.o,←hlb.o];exact B7.o),F7⟩
    case measure=>simp[intOf];omega
  ·have hkq:k=qn:=by omega
   subst hkq;have HT:=aa (show qs.take k=qs from Gj (by have:=HN.o;omega));rw[HT.o] at hI hB hbn;go_wp2_with fail;exact Met.intro (hQ wr na nn nc ba bn bc hI hB hnn.o (by rw[hbn.o];have h9:=Mx.pO qs k;rw[HT.o] at h9;exact h9) hF)
end
section
open Go.RowKit Go.Shelf
attribute [local go_sem] Oper.semAt_some
theorem kY {F:Fence} {fuel:Nat} {ops:Array Oper} {rest:List Oper} {o:Oper} {a:Act} {w:World} {Q:Exit→Act→World→Prop} (hgd:o.guard=none) (s x:Operand)
 (ho:o.op=.call {callee:=.builtin .append,args:=#[s,x],argTypes:=#[103,103]}) (base:Nat) (n:Nat) (xs:List Value) (hown:w.ownsRow base 173 3 (a.eval s) n xs)
 (c0 c1 c2:Value) (hcc:∀ u∈[c0,c1,c2],u.oneCell'=true) (hx:a.eval x=.slice (some ⟨w.heap.size,0,none⟩) 1 1) (h63:n≤1000000) (hbase:base≤w.heap.size)
 (h:∀ v' w',w'.ownsRow base 173 3 v' (n+1) (xs++[c0,c1,c2])→w.grownBy w' (a.eval s).ownBlock→wpListIn F fuel Tryz.prog ops Q rest (a.put o.dst v') w') :
 wpListIn F fuel Tryz.prog ops Q (o::rest) a (w.alloc (.cells #[c0,c1,c2] 173)):=by
 have hw:Region.wanted o (yielded ops a.tmps)=true:=by simp[Region.wanted,hgd]
 unfold wpListIn;rw[if_pos hw];obtain⟨i0,hi,hz0,hz1,hz2⟩:=info_parts Tryz.infoFr;have hB:=Bx.new w #[c0,c1,c2] 173;obtain⟨v',w',hr,h2,h3,_⟩:=run_append_own_at (P:=Tryz.prog) (w.alloc (.cells #[c0,c1,c2] 173)) base 103 o.type 173 i0 _ 3 56 Tryz.underlying103 hi hz0 hz1 hz2 rfl (by decide) (a.eval s) n xs (World.ownsRow.alloc hown _) ⟨w.heap.size,0,none⟩ 1 1 [c0,c1,c2] rfl (fun j u hj=>by
  rw[Addr.add_lit,Nat.zero_add,hB.cell j];simpa using hj) hcc (by unfold maxLen;omega) (by omega) (by simp;omega)
 unfold Oper.wpIn;refine⟨by simp[Oper.about,ho,resolve,Target.leads,Sem.run_pure],?_⟩;rw[Oper.semAt_plain F _ _ (by rw[ho];intro c hc';cases hc')];simp[execOp,ho,resolve,invoke,builtin,hx,hr,Result.andThen];exact h v' w' h2 ⟨h3.os,h3.tape,h3.output,by have:=h3.size;simp at this;omega,fun k hk hne=>(h3.block k (by simp;omega) hne).trans (Below.heap_alloc w _ k hk)⟩
def fy (b off:Nat) {m:Nat} (x:Cn m):List Value:=[.int .i64 0,.slice (some ⟨b,off+x.s,none⟩) x.q x.q,.slice none 0 0]
def kg (w:World) (C b off:Nat) {m:Nat} (pre:List (Cn m)) (W:World):Prop :=
 ∃ v,Bx W w.heap.size #[v] 103∧W.ownsRow C 173 3 v pre.length (pre.flatMap (fy b off))∧Gq w W∧C≤W.heap.size
def NAx (b off:Nat) {m:Nat} (T:Array Value) (x:Cn m) (a':Act) (_:World):Prop :=
 a'={tmps:=(T.setIfInBounds 46 (.slice (some ⟨b,off+x.s,none⟩) x.q x.q)).setIfInBounds 8 (.slice (some ⟨b,off+x.s,none⟩) x.q x.q),defers:=[]}
theorem Bo (w:World) (C b off m:Nat) (hC:w.heap.size+1≤C):OwnFrom C (kg w C b off (m:=m)):=by
 rintro pre W W' row ⟨v,b0,ho,bb,bs⟩ hg hr;have hr':∀ r,row=some r→∃ o:Obj,W.heap[r]?=some o∧o.isCells=false:=fun r e=>(hr r e).2
 exact⟨v,bO b0 hg hr',gR ho hg hr',bb.grown hg (by omega) (fun k e=>by have:=(hr k e).1;omega),by have:=hg.size;omega⟩
theorem wv {w W W4:World} {C b off m Bs Bn:Nat} {pre:List (Cn m)} {x:Cn m} {v v':Value} (hC:w.heap.size+1≤C) (hBs:w.heap.size<Bs∧Bs<C) (hBn:w.heap.size<Bn∧Bn<C)
 (b0:Bx W w.heap.size #[v] 103) (ho:W.ownsRow C 173 3 v pre.length (pre.flatMap (fy b off))) (bb:Gq w W) (bs:C≤W.heap.size)
 (h4:W4.ownsRow C 173 3 v' (pre.length+1) (pre.flatMap (fy b off)++fy b off x)) (hg4:W.grownBy W4 v.ownBlock) :
 KeepsFrom C W (W4.setCell ⟨w.heap.size,0,none⟩ v')∧KpC w.heap.size Bs Bn W (W4.setCell ⟨w.heap.size,0,none⟩ v')∧kg w C b off (pre++[x]) (W4.setCell ⟨w.heap.size,0,none⟩ v'):=by
 have hlt:∀ k,v.ownBlock=some k→C≤k∧k<W.heap.size:=fun k hk=>World.ownsRow.lt ho k hk
 have hk4:KeepsOthers W W4:=KeepsOthers.of_grownBy hg4 (by
  intro j o' e hj;rcases ho.2 with ⟨hv,_⟩|⟨g',cap,cur,hv,_,hgb,_⟩
  ·rw[hv] at e;cases e
  ·rw[hv] at e
   cases e
   rw[hgb] at hj;cases hj
   rfl)
 have hblk:∀ k,k<C→W4.heap[k]?=W.heap[k]?:=fun k hk=>hg4.block k (by omega) (fun e=>by have:=(hlt k e.symm).1;omega)
 have hB4:Below C W W4:=⟨hg4.os,hg4.tape,hg4.output,hg4.size,fun k hk=>hblk k hk⟩
 have b4:Bx W4 w.heap.size #[v] 103:=(hblk _ (by omega)).trans b0;refine⟨(hk4.trans (KeepsOthers.setCell _ _ _)).from _,⟨(hB4.mono (show w.heap.size≤C by omega)).setCell (p:=⟨w.heap.size,0,none⟩) (Gi _) _,?_,?_⟩,v',b4.set 0 v',?_,(bb.trans (hB4.mono (show w.heap.size≤C by omega))).setCell (p:=⟨w.heap.size,0,none⟩) (Gi _) _,?_⟩
 ·rw[Below.heap_setCell _ _ _ _ (show Bs≠w.heap.size by omega)]
  exact hblk Bs hBs.2
 ·rw[Below.heap_setCell _ _ _ _ (show Bn≠w.heap.size by omega)]
  exact hblk Bn hBn.2
 ·rw[Ge,List.flatMap_append,List.flatMap_cons,List.flatMap_nil,List.append_nil]
  refine az h4 _ _ (fun e=>?_);have:=(World.ownsRow.lt h4 _ e).1;simp at this;omega
 ·simp[World.setCell]
  have:=hg4.size;omega
theorem zP {g:Operand} {assign body:Code} {Q:Exit→Act→World→Prop} {a:Act} {wl:World} (w:World) (Bs Bn b off cap m:Nat)
 (hg:a.eval g=.func (.func 157) #[] #[.pointer (some ⟨Bs,0,none⟩),.pointer (some ⟨Bn,0,none⟩)]) (hm:m≤1000) (hcap:m≤cap) (hBsl:Bs<wl.heap.size) (hBnl:Bn<wl.heap.size) (hC:w.heap.size+1≤wl.heap.size)
 (hBs:wl.cell? ⟨Bs,0,none⟩=some (.slice (some ⟨b,off,none⟩) m cap)) (hBn:wl.cell? ⟨Bn,0,none⟩=some (.int .i64 9)) (h0:kg w wl.heap.size b off ([]:List (Cn m)) wl)
 (hassign:∀ (lp:Nat) (pre:List (Cn m)) (x:Cn m) (W:World) (K:Act→World→Prop),kg w wl.heap.size b off pre W→(∀ a' W',KeepsFrom wl.heap.size W W'→KpC w.heap.size Bs Bn W W'→kg w wl.heap.size b off pre W'→NAx b off a.tmps x a' W'→K a' W') →
   assign.wpIn (Fence.wide.inRound lp) (6-1-1) Tryz.prog (Exit.then K (fun _ _ _=>False)) {tmps:=a.tmps.setIfInBounds 46 (.slice (some ⟨b,off+x.s,none⟩) x.q x.q),defers:=[]} W)
 (hbody:∀ (lp:Nat) (pre:List (Cn m)) (x:Cn m) (a':Act) (W:World),kg w wl.heap.size b off pre W→NAx b off a.tmps x a' W→pre.length<(m+8)/9 →
   body.wpIn (Fence.wide.inRound lp) (6-1-1) Tryz.prog (ownPostG wl.heap.size (KpC w.heap.size Bs Bn) (kg w wl.heap.size b off) (fun _ _ _=>False) (pre++[x]) W) a' W)
 (hdone:∀ (D:Nat) (W:World),wl.heap.size≤D→kg w wl.heap.size b off (cb m ((m+8)/9)) W→W.heap[D]?=some (.deferred (some []))→Q .normal {a with defers:={target:=.collected D,args:=#[]}::a.defers} W) :
 (Code.rangeFunc g #[46] assign body).wpIn Fence.wide 6 Tryz.prog Q a wl:=by
 refine wpIn_rangeFunc_ownH rfl (by omega) (gf:=157) (lb:=#[.pointer (some ⟨Bs,0,none⟩),.pointer (some ⟨Bn,0,none⟩)]) hg trivial (enters_of Tryz.func157 (by kernel_rfl) rfl)
  (sy 5 (by omega) Bs Bn w.heap.size b off cap m hm hcap wl (by omega) hBsl hBnl hBs hBn) Fw (Fv (by omega) hBsl hBnl) (Below.refl _ _) (fun _=>rfl)
  (kg w wl.heap.size b off) (fun _ _ _=>False) (Bo w _ b off m hC) (fun _ _ _ _ _ hs _ _=>hs) h0 (NAx b off a.tmps) (fun _ _ _ _ _ _ h _ _=>h) ?_ ?_ ?_ ?_
 ·intro lp pre x W K hi hK
  have h:=hassign lp pre x W K hi hK;have e:(#[46].zip (oJ b off x)).foldl (fun(t:Array Value) (x:Nat × Value)=>match x with|(p,v)=>t.setIfInBounds p v) a.tmps=a.tmps.setIfInBounds 46 (.slice (some ⟨b,off+x.s,none⟩) x.q x.q):=by simp[oJ]
  rw[e];exact h
 ·intro lp pre x a' W _ _ hi ha hlt
  exact hbody lp pre x a' W hi ha hlt
 ·rintro D xs W hD rfl hi hK
  exact hdone D W hD hi hK
 ·intro D c pre W _ _ h _
  exact h.elim
end
section
open Go.RowKit
variable {b n i:Nat} {l:List Int}
theorem ay.FP {w:World} {off:Nat} (h:ay w (some ⟨b,off,none⟩) n l) (s q:Nat) (hs:s+q≤n):ay w (some ⟨b,off+s,none⟩) q ((l.drop s).take q):=by
 obtain⟨h1,h2,h3⟩:=h;refine⟨by rw[Gk,List.length_drop];omega,by omega,fun hq=>?_⟩;obtain⟨b',off',ha,hlt,hc⟩:=h3 (by omega);simp only[Option.some.injEq,Addr.mk.injEq,and_true] at ha;obtain⟨rfl,rfl⟩:=ha;refine⟨b,off+s,rfl,hlt,fun i hi=>?_⟩;have h9:=hc (s+i) (by omega);rw[←Nat.add_assoc] at h9;rw[h9];simp only[Ga];rw[List.getElem?_take_of_lt hi,List.getElem?_drop]
namespace Mx
theorem pT (h:i<(l.length+8)/9):(bU l)[i]?=some ((l.drop (i*9)).take 9):=by
 unfold bU;rw[List.getElem?_map,List.getElem?_range h];rfl
theorem Upd.Dh {u:Upd} {f:Fr} (h:u.msgs[i]?=some f):f.al=(u.al.drop (i*9)).take 9:=by
 have hl:=(Gh.1 h).1;have hml:=u.kD;have hnl:=u.gQ;have hnn:=iL u.al;unfold Upd.msgs at h;have hdl:((bU u.al).dropLast.map (fun c=>(⟨0,c,0,[]⟩:Fr))).length=(u.al.length+8)/9-1:=by rw[List.length_map,List.length_dropLast,hnn]
 by_cases hi:i<(u.al.length+8)/9-1
 ·rw[Gm (by omega),List.getElem?_map,List.getElem?_dropLast,if_pos (by omega),pT (by omega)] at h
  simp at h;subst h;rfl
 ·have hie:i=(u.al.length+8)/9-1:=by omega
  rw[Gl (by omega),show i-((bU u.al).dropLast.map (fun c=>(⟨0,c,0,[]⟩:Fr))).length=0 by omega] at h;simp at h;subst h;simp only;rw[List.getLast?_eq_getElem?,hnn,pT (by omega),hie];rfl
end Mx
theorem xQ {k:Nat} (hl:l.length=n) (hk:k*9<n):(l.drop (fU n k).s).take (fU n k).q=(l.drop (k*9)).take 9:=by
 show(l.drop (min (k*9) n)).take (min 9 (n-min (k*9) n))=(l.drop (k*9)).take 9
 rw[show min (k*9) n=k*9 by omega];rcases(show 9≤n-k*9∨n-k*9<9 by omega) with h|h
 ·rw[show min 9 (n-k*9)=9 by omega]
 ·rw[Gj (by rw[List.length_drop];omega),Gj (by rw[List.length_drop];omega)]
theorem AU {W:World} {u:Mx.Upd} {nn bn bc g B N:Nat} {ba:Option Addr} (hI:ay W (some ⟨b,0,none⟩) nn u.al) (hk:aS W ba bn (flat (Mx.bH u.qs))) (hbn:bn=(Mx.bH u.qs).length) (hbc:bn≤bc) (hBb:B≤b) (hgb:g≠b)
 (hba:0<bn→∀ p,ba=some p→some g≠some p.block∧B≤p.block) (hN:N=(nn+8)/9) :
 Fps B W ((((cb nn N).flatMap (fy b 0)).set ((N-1)*3) (.int .i64 1)).set ((N-1)*3+2) (.slice ba bn bc)) u.msgs (some g):=by
 intro i f hf;have hl:=(Gh.1 hf).1;have hml:=u.kD;have hnl:=u.gQ;have hin:=hI.1;have hiN:i<N:=by omega
 have hML:u.msgs.length=N:=by omega
 have hx:(cb nn N)[i]?=some (fU nn i):=by unfold cb;rw[List.getElem?_map,List.getElem?_range hiN];rfl
 have e:=fun j (hj:j<3)=>cQ (fy b 0) 3 (fun _=>rfl) (cb nn N) i j _ hx hj
 have hfl:((cb nn N).flatMap (fy b 0)).length=N*3:=by rw[eo _ 3 (fun _=>rfl),jr]
 have hnm:f.al=(u.al.drop (fU nn i).s).take (fU nn i).q:=by rw[xQ hin (by omega),Mx.Upd.Dh hf]
 have hit:ay W (some ⟨b,0+(fU nn i).s,none⟩) (fU nn i).q f.al:=by rw[hnm];exact hI.FP _ _ (fU nn i).ok.1
 have e1:((((cb nn N).flatMap (fy b 0)).set ((N-1)*3) (.int .i64 1)).set ((N-1)*3+2) (.slice ba bn bc))[i*3+1]?=some (.slice (some ⟨b,0+(fU nn i).s,none⟩) (fU nn i).q (fU nn i).q):=by
  rw[List.getElem?_set_ne (by omega),List.getElem?_set_ne (by omega),e 1 (by omega)];rfl
 by_cases hlast:i+1=N
 ·obtain⟨f1,f2,f3⟩:=Mx.Upd.pP hf (by omega)
  have hiE:N-1=i:=by omega
  refine⟨_,_,_,ba,bc,?_,e1,?_,hit,?_,Gi _,?_,fun _ p hp=>?_,?_⟩
  ·rw[List.getElem?_set_ne (by omega),hiE,List.getElem?_set_self (by rw[hfl];omega),f1]
  ·rw[hiE,List.getElem?_set_self (by rw[List.length_set,hfl];omega),f2,hbn]
  ·rw[f2,f3,←hbn];exact hk
  ·rw[f2,←hbn];exact hbc
  ·cases hp;exact⟨fun e=>hgb (Gg e),hBb⟩
  ·rw[f2,←hbn];exact hba
 ·obtain⟨f1,f2,f3⟩:=Mx.Upd.pS hf (by omega)
  refine⟨_,_,_,none,0,?_,e1,?_,hit,?_,Gi _,?_,fun _ p hp=>?_,?_⟩
  ·rw[List.getElem?_set_ne (by omega),List.getElem?_set_ne (by omega),show i*3=i*3+0 from rfl,e 0 (by omega),f1]
   rfl
  ·rw[List.getElem?_set_ne (by omega),List.getElem?_set_ne (by omega),e 2 (by omega),f2]
   rfl
  ·rw[f2,f3];exact⟨rfl,by rw[aC];omega,fun x hx=>by simp at hx,fun h=>absurd h (by omega)⟩
  ·rw[f2];exact Gi _
  ·cases hp;exact⟨fun e=>hgb (Gg e),hBb⟩
  ·rw[f2];intro h;exact absurd h (by omega)
end
section
open Go.RowKit Go.Shelf
variable {w:World} {frm to_:Int} {nn nc bn bc:Nat} {ba:Option Addr} {u0 u5 u6 u8 u9 Iy Il Iv Ik Ho Gv Gw Gx Gy Gz GC GD GH GI GJ GK GL GM GO GP GQ GR GS GU GV GX GY GZ Ha Hb Hc He Hf Hg Hh Hi Hj Hk Hl Hm Hn Hp Hq Hr Hs Ht Ia Ib Ic Ie Ig Ih Ii Ij Iw:Value}
attribute [local go_sem] Oper.semAt_some
theorem mm6 {W:World} {qs:List Pk} {b lb M g cap D C:Nat} (HI:Hid (aV W w.heap.size (.slice (some ⟨b,0,none⟩) nn nc) (frm::to_::qs.map Mx.cV))) (HB:Hid (au W w.heap.size (.slice ba bn bc) (Mx.bH qs))) (HBY:Hid (∀ x∈Mx.bH qs,Mx.by8 x)) (HX:Hid (Bx W lb #[.slice (some ⟨g,0,none⟩) (M+1) cap] 103)) (HO:Hid (W.ownsRow C 173 3 (.slice (some ⟨g,0,none⟩) (M+1) cap) (M+1) ((cb nn (M+1)).flatMap (fy b 0)))) (HF:Hid (Gq w W)) (HM:Hid (M+1=(nn+8)/9)) (hCw:w.heap.size≤C) (hM:M≤1000) (HD:Hid (W.heap[D]?=some (.deferred (some [])))) (hDw:w.heap.size≤D) {u1 u2 u3:Value} :
 cO (Tryz.f114.body.getD .skip) (bodyPostM Fence.wide 6 Tryz.prog Tryz.f114 (fun e w'=>∃ la ln lc,e=.returned (.slice la ln lc)∧Hid (bV w.heap.size w' w.heap.size (.slice la ln lc) (Mx.Upd.msgs ⟨frm,to_,qs⟩))∧Hid (Gq w w'))) 6 ⟨#[u0,u1,u2,u3,.slice ba bn bc,u5,u6,.pointer (some ⟨lb,0,none⟩),u8,u9,Iy,Il,Iv,Ik,Ho,Gv,Gw,Gx,Gy,Gz,GC,GD,GH,GI,GJ,GK,GL,GM,GO,GP,GQ,GR,GS,GU,GV,GX,GY,GZ,Ha,Hb,Hc,He,Hf,Hg,Hh,Hi,Hj,Hk,Hl,Hm,Hn,Hp,Hq,Hr,Hs,Ht,Ia,Ib,Ic,Ie,Ig,Ih,Ii,Ij,Iw],[{target:=.collected D,args:=#[]}]⟩ W:=by
 refine bJ rfl ?_;intro K hK;have c0:=HX.o.cell 0;simp only[Gd,Gb] at c0;have h1:(0:Int)≤(M:Int):=by omega
 go_wp2_with fail;refine Met.intro (bJ rfl ?_);try clear hK K
 intro K hK;have HNN:=aa (show nn=(frm::to_::qs.map Mx.cV).length by
  obtain⟨a7,c7,hv7,_⟩:=aV.ints HI.o;injection hv7)
 have hx:(cb nn (M+1))[M]?=some (fU nn M):=by unfold cb;rw[List.getElem?_map,List.getElem?_range (by omega)];rfl
 obtain⟨a9,c9,hv9,_,hr9,_⟩:=aA HO.o;obtain⟨b9,o9,ha9,_,hc9⟩:=hr9.2.2 (by omega);have e9:a9=some ⟨g,0,none⟩:=by injection hv9 with h _ _;exact h.symm
 rw[e9] at ha9;simp only[Option.some.injEq,Addr.mk.injEq,and_true] at ha9;obtain⟨rfl,rfl⟩:=ha9;have r0:W.cell? ⟨g,M*3,none⟩=some (.int .i64 0):=by
  have h9:=hc9 (M*3+0) _ ((cQ (fy b 0) 3 (fun _=>rfl) _ M 0 _ hx (by omega)).trans rfl);simpa using h9
 have r2:W.cell? ⟨g,M*3+2,none⟩=some (.slice none 0 0):=by
  have h9:=hc9 (M*3+2) _ ((cQ (fy b 0) 3 (fun _=>rfl) _ M 2 _ hx (by omega)).trans rfl);simpa using h9
 obtain⟨cur,hcur⟩:∃ cur,Hid (Bx W g cur 173):=by
  rcases HO.o.2 with ⟨hv,_⟩|⟨g',cap',cur,hv,_,hh,_⟩
  ·cases hv
  ·simp only[Value.slice.injEq,Option.some.injEq,Addr.mk.injEq,and_true] at hv
   obtain⟨rfl,_⟩:=hv;exact⟨cur,aa hh⟩
 have rz:=hcur.o.frozen;clear hv9 hr9 hc9 e9 hx;have HGL:=aa (show lb≠g from fun e=>by
  have h1:=HX.o;have h2:=hcur.o;unfold Bx at h1 h2;rw[e,h2] at h1;simp at h1)
 obtain⟨W8,hW8⟩:∃ W8:World,Hid (W8=(W.setCell ⟨g,M*3,none⟩ (.int .i64 1)).setCell ⟨g,M*3+2,none⟩ (.slice ba bn bc)):=⟨_,rfl⟩
 have S1:=HO.o.stored (M*3) (.int .i64 1);have S2:=S1.1.stored (M*3+2) (.slice ba bn bc);have O8:=aa (show W8.ownsRow C 173 3 (.slice (some ⟨g,0,none⟩) (M+1) cap) (M+1) _ by rw[hW8.o];exact S2.1);have G8:=aa (show W.grownBy W8 (some g) by rw[hW8.o];exact S1.2.trans S2.2);clear S1 S2;have hgC:=(World.ownsRow.lt HO.o g rfl).1;have X8:=aa (HX.o.grow G8.o (fun e=>HGL.o (Gg e)));have NI:=aa (aX HI.o hcur.o (by decide));have NB:=aa (aX HB.o hcur.o (by decide));have I8:=aa (show aV W8 w.heap.size (.slice (some ⟨b,0,none⟩) nn nc) (frm::to_::qs.map Mx.cV) from World.ownsRow.kept HI.o G8.o (.inr NI.o));have B8_:=aa (show au W8 w.heap.size (.slice ba bn bc) (Mx.bH qs) from World.ownsRow.kept HB.o G8.o (.inr NB.o));have F8:=aa (show Gq w W8 from aM HF.o G8.o (by omega));have D8:=aa (show W8.heap[D]?=some (.deferred (some [])) from(G8.o.block D (by
  rcases Nat.lt_or_ge D W.heap.size with h|h
  ·exact h
  ·have h9:=HD.o
   rw[Array.getElem?_eq_none h] at h9;cases h9) (fun e=>by
  have h9:=HD.o;have h8:=hcur.o;unfold Bx at h8;rw[Gg e,h8] at h9;simp at h9)).trans HD.o)
 go_wp2_with fail;rw[←hW8.o];refine Met.intro (iQ (c':=.seq _ .ret) rfl ?_);try clear hK K
 clear c0 r0 r2 rz;have c0:=X8.o.cell 0;simp only[Gd,Gb] at c0;go_wp2_with fail;have hgO:=grownBy_putObj' W8 D (.deferred none);have hrO:∀ r,some D=some r→∃ o:Obj,W8.heap[r]?=some o∧o.isCells=false:=fun r e=>by cases e;exact⟨_,D8.o,rfl⟩
 have o9:=gR O8.o hgO hrO;have i9:=gR I8.o hgO hrO;have b9:=gR B8_.o hgO hrO;have hbl:=F8.o.grown hgO F8.o.size (fun k e=>by cases e;omega);refine⟨by simp,.inl ⟨_,_,rfl,run_takeDeferred D8.o,?_⟩⟩;generalize W8.putObj D (.deferred none)=WG at *;have hln:(Mx.Upd.msgs ⟨frm,to_,qs⟩).length=M+1:=by
  rw[Mx.Upd.kD,HM.o];rw[HNN.o];simp
 have hI9:ay WG (some ⟨b,0,none⟩) nn (frm::to_::qs.map Mx.cV):=by
  obtain⟨a7,c7,hv7,h7⟩:=aV.ints i9;injection hv7 with e1 e2 _
  rw[←e1,←e2] at h7;exact h7
 obtain⟨a6,c6,hv6,h6,hp6⟩:=au.bl b9;injection hv6 with e1 e2 _
 subst e1;have hb9:aS WG ba bn (flat (Mx.bH qs)):=by
  rw[←e2] at h6;exact h6.Aq HBY.o
 have hbc:bn≤bc:=by
  obtain⟨a5,c5,hv5,hc5,_⟩:=aA HB.o;injection hv5 with _ e5 e6
  omega
 refine⟨.slice (some ⟨g,0,none⟩) (M+1) cap,by simp[results,Tryz.results114,go_sem],some ⟨g,0,none⟩,M+1,cap,rfl,aa ⟨(((cb nn (M+1)).flatMap (fy b 0)).set (M*3) (.int .i64 1)).set (M*3+2) (.slice ba bn bc),?_,?_⟩,aa hbl⟩
 ·rw[hln]
  exact World.ownsRow.mono o9 (by omega)
 ·have h5:=AU (W:=WG) (u:=⟨frm,to_,qs⟩) (b:=b) (nn:=nn) (bn:=bn) (bc:=bc) (g:=g) (B:=w.heap.size) (N:=M+1) (ba:=ba) hI9 hb9 e2 hbc (World.ownsRow.lt HI.o b rfl).1 (fun e=>NI.o (by rw[e];rfl)) (fun _ p hp=>⟨fun e=>NB.o (by rw[hp];exact e.symm),hp6 p hp⟩) HM.o
  exact h5
theorem mm4 {V:World} {qs:List Pk} {na:Option Addr} {qn:Nat} (HI:Hid (aV V w.heap.size (.slice na nn nc) (frm::to_::qs.map Mx.cV))) (HB:Hid (au V w.heap.size (.slice ba bn bc) (Mx.bH qs))) (HBY:Hid (∀ x∈Mx.bH qs,Mx.by8 x)) (HF:Hid (Gq w V)) (hnn:nn=qn+2) (hqn:qn≤900) {u7:Value} :
 cO (Tryz.f114.body.getD .skip) (bodyPostM Fence.wide 6 Tryz.prog Tryz.f114 (fun e w'=>∃ la ln lc,e=.returned (.slice la ln lc)∧Hid (bV w.heap.size w' w.heap.size (.slice la ln lc) (Mx.Upd.msgs ⟨frm,to_,qs⟩))∧Hid (Gq w w'))) 4 ⟨#[u0,.pointer (some ⟨w.heap.size,0,none⟩),.slice none 0 0,.slice na nn nc,.slice ba bn bc,u5,u6,u7,u8,u9,Iy,Il,Iv,Ik,Ho,Gv,Gw,Gx,Gy,Gz,GC,GD,GH,GI,GJ,GK,GL,GM,GO,GP,GQ,GR,GS,GU,GV,GX,GY,GZ,Ha,Hb,Hc,He,Hf,Hg,Hh,Hi,Hj,Hk,Hl,Hm,Hn,Hp,Hq,Hr,Hs,Ht,Ia,Ib,Ic,Ie,Ig,Ih,Ii,Ij,Iw],[]⟩ V:=by
 obtain⟨b,hna⟩:∃ b:Nat,na=some ⟨b,0,none⟩:=by
  rcases HI.o.2 with ⟨_,h⟩|⟨g',cap',cur,hv,_⟩
  ·simp at h
  ·injection hv with h _ _
   exact⟨g',h⟩
 obtain⟨o,ho⟩:∃ o:Nat,Hid (o=0):=⟨_,rfl⟩
 rw[←ho.o] at hna;subst hna;have hnc:nn≤nc:=aV.cap HI.o;have HNN:=aa hnn;have hn1:nn≤1000:=by omega
 have hn2:2≤nn:=by omega
 clear hnn;refine bJ rfl ?_;intro K hK;obtain⟨V1,hV1⟩:∃ V1:World,Hid (V1=V.alloc (.cells #[.slice none 0 0] 103)):=⟨_,rfl⟩
 go_wp2_with fail;rw[←hV1.o];refine Met.intro (bJ rfl ?_);try clear hK K
 intro K hK;go_wp2_with fail;refine(callsIn_wide.1 (tM 5 (some ⟨b,o,none⟩) nn nc V1)).mono ?_;rintro e w2 ⟨rfl,rfl⟩;go_wp2_with fail;obtain⟨wl,hwl⟩:∃ wl:World,Hid (wl=(V1.alloc (.cells #[.slice (some ⟨b,o,none⟩) nn nc] 47)).alloc (.cells #[.int .i64 9] 3)):=⟨_,rfl⟩
 have hS1:V.heap.size<V1.heap.size:=by rw[hV1.o];simp
 have hsz:V1.heap.size+1<wl.heap.size:=by rw[hwl.o];simp
 have X0:=aa (show Bx wl V.heap.size #[.slice none 0 0] 103 by rw[hwl.o,hV1.o];exact((Bx.new V _ _).alloc _).alloc _);have X1:=aa (show Bx wl V1.heap.size #[.slice (some ⟨b,o,none⟩) nn nc] 47 by rw[hwl.o];exact(Bx.new V1 _ _).alloc _);have X2:=aa (show Bx wl (V1.heap.size+1) #[.int .i64 9] 3 by
  rw[hwl.o];have h:=Bx.new (V1.alloc (.cells #[.slice (some ⟨b,o,none⟩) nn nc] 47)) #[.int .i64 9] 3;rw[World.size_alloc] at h;exact h)
 have B0:=aa (show Gq V wl by rw[hwl.o,hV1.o];exact((af _ _).alloc (by simp) _).alloc (by simp;omega) _);rw[←hwl.o];have hwl3:V.heap.size+1≤wl.heap.size:=by omega
 refine wpIn_wide.1 (zP V V1.heap.size (V1.heap.size+1) b o nc nn rfl hn1 hnc (by omega) (by omega) hwl3 (X1.o.cell 0) (X2.o.cell 0) ⟨.slice none 0 0,X0.o,World.ownsRow_nil _ _ _ _,B0.o,Gi _⟩ ?assign ?body ?done);case assign =>
  intro lp pre x W K hi hK;simp only[List.setIfInBounds_toArray,List.set_cons_succ,List.set_cons_zero];gi_wp2
  exact hK _ _ (KeepsFrom.refl _ _) ⟨Below.refl _ _,rfl,rfl⟩ hi (by unfold NAx;simp only[List.setIfInBounds_toArray,List.set_cons_succ,List.set_cons_zero])
 case body =>
  rintro lp pre x a' W ⟨v,b0,ho,bb,bs⟩ rfl hlt;have HX0:=aa b0;have HO:=aa ho;have HBB:=aa bb;have HBS:=aa bs;have c0:=b0.cell 0;have hwW:V.heap.size<W.heap.size:=b0.lt;have hpl:pre.length≤1000:=by omega
  clear b0 ho bb bs;simp only[List.setIfInBounds_toArray,List.set_cons_succ,List.set_cons_zero] at c0 ⊢;gi_wp2_with (refine kY rfl (.tmp 47) (.tmp 50) rfl wl.heap.size pre.length (pre.flatMap (fy b o)) ?zz1 (.int .i64 0) (.slice (some ⟨b,o+x.s,none⟩) x.q x.q) (.slice none 0 0) ?zz2 rfl ?zz3 ?zz4 ?_);case zz1=>exact HO.o
  case zz2=>intro y hy;simp at hy;rcases hy with rfl|rfl|rfl<;>rfl
  case zz3=>omega
  case zz4=>exact HBS.o
  intro v' W4 hown4 hgr4;obtain⟨g4,cap4,hv4,_⟩:=hown4.form (by omega);obtain⟨N4,hN4⟩:∃ N4:Nat,Hid (N4=pre.length+1):=⟨_,rfl⟩
  rw[←hN4.o] at hv4;subst hv4;have HO4:=aa hown4;have HG4:=aa (show W.grownBy W4 v.ownBlock from hgr4);have HX4:=aa (show Bx W4 V.heap.size #[v] 103 from(HG4.o.block _ hwW (fun e=>by have:=(World.ownsRow.lt HO.o _ e.symm).1;omega)).trans HX0.o);have c4:W4.cell? ⟨V.heap.size,0,none⟩=some v:=HX4.o.cell 0;have z4:=HX4.o.frozen;clear hown4 hgr4;gi_wp2_with fail;exact wv hwl3 ⟨by omega,by omega⟩ ⟨by omega,by omega⟩ HX0.o HO.o HBB.o HBS.o HO4.o HG4.o
 case done =>
  intro D W hD hi hKd;have ho':=ho.o;subst ho';obtain⟨v,b0,ho2,bb,bs⟩:=hi;obtain⟨M,hM⟩:∃ M:Nat,Hid (M+1=(nn+8)/9):=⟨(nn+8)/9-1,aa (by omega)⟩
  rw[jr,←hM.o] at ho2;obtain⟨g,cap,hv⟩:∃ g cap,v=.slice (some ⟨g,0,none⟩) (M+1) cap:=by
   rcases ho2.2 with ⟨_,h⟩|⟨g',cap',cur,hv,_⟩
   ·simp at h
   ·exact⟨g',cap',hv⟩
  subst hv;refine hK _ _ (Met.intro (mm6 (W:=W) (aa (bm HI.o bb)) (aa (bm HB.o bb)) HBY (aa b0) (aa ho2) (aa (HF.o.trans (bb.mono HF.o.size))) hM (by have h9:=HF.o.size;omega) (by have h9:=hM.o;omega) (aa hKd) (by have h9:=HF.o.size;omega)))
end
section
open Go.RowKit Go.Shelf
theorem sv (frm to_:Int) (qa:Option Addr) (qn qc:Nat) (qs:List Pk) (w:World) (hq:QL w qa qn qs) (hw:∀ q∈qs,Mx.QW q) (hqn:qn≤900) (hby:∀ x∈Mx.bH qs,Mx.by8 x) :
 Calls Tryz.prog 114 #[.agg #[.int .i64 frm,.int .i64 to_,.slice qa qn qc]] w fun e w'=>∃ la ln lc,e=.returned (.slice la ln lc)∧Hid (bV w.heap.size w' w.heap.size (.slice la ln lc) (Mx.Upd.msgs ⟨frm,to_,qs⟩))∧Hid (Gq w w'):=by
 have HQ:=aa hq;have HW:=aa hw;have HBY:=aa hby;clear hq hw hby;obtain⟨W0,hW0⟩:∃ W0:World,Hid (W0=w.alloc (.cells #[.int .i64 frm,.int .i64 to_,.slice qa qn qc] 213)):=⟨_,rfl⟩
 obtain⟨W1,hW1⟩:∃ W1:World,Hid (W1=W0.alloc (.cells #[.int .i64 frm,.int .i64 to_] 3)):=⟨_,rfl⟩
 have X0:=bxA hW0;have D0:=beA hW0;have D1:=beA hW1;have X1:=aa (X0.o.later D1.o X0.o.lt);have F1:=aa (show Gq w W1 from D0.o.trans (D1.o.mono D0.o.size));have I1:=aa (show aV W1 w.heap.size (.slice (some ⟨W0.heap.size,0,none⟩) 2 2) [frm,to_] by
  rw[hW1.o];exact⟨rfl,.inr ⟨W0.heap.size,2,_,rfl,D0.o.size,heap_alloc_new W0 _,Gi _,by rw[aC];omega,rfl,rfl⟩⟩)
 obtain⟨x0,x1,x2⟩:=X0.o.three;refine(callsIn_wide (n:=6)).1 ?_;refine callsIn_of_wp_marks Tryz.func114 rfl trivial ?_ rfl;simp only[Tryz.ntmps114,List.size_toArray,List.length_cons,List.length_nil,Nat.reduceAdd,Nat.reduceSub,Array.replicate_succ,Array.replicate_zero,List.push_toArray,List.append_toArray,List.nil_append,List.cons_append];refine wpIn_wide.2 ?_;change cO (Tryz.f114.body.getD .skip) _ 0 _ w;refine bJ rfl ?_;intro K hK;go_wp2_with fail;rw[←hW0.o];refine Met.intro (bJ rfl ?_);try clear hK K
 intro K hK;go_wp2_with fail;rw[←hW1.o];refine Met.intro (bJ rfl ?_);try clear hK K
 intro K hK;go_wp2_with fail;exact Met.intro (mm3 HQ HW (by omega) X1 I1 F1 (fun V na nn nc ba bn bc {_ _ _ _ _ _ _ _ _ _ _ _ _ _ _ _ _ _ _ _ _ _ _ _ _ _ _ _ _ _ _ _ _ _ _ _ _ _ _ _ _ _ _ _ _ _ _ _ _ _ _ _ _ _ _ _ _ _ _ _ _} hI hB hnn hbn hF=>mm4 hI hB HBY hF hnn hqn))
end
section
open Go.RowKit
theorem E9 (ses base:Int) (qa:Option Addr) (qn qc:Nat) (fs:List Fr) (kd:Int) (a1 a2:Option Addr) (n1 c1 n2 c2:Nat) (nm bs:List Int) (w:World) (hq:FL w qa qn fs) (hi:ay w a1 n1 nm) (hk:aS w a2 n2 bs) (h0:Mx.fX ⟨ses,base,fs⟩ ⟨kd,nm,n2,bs⟩=0) :
 Calls Tryz.prog 115 #[.agg #[.int .i64 ses,.int .i64 base,.slice qa qn qc],.agg #[.int .i64 kd,.slice a1 n1 c1,.slice a2 n2 c2]] w fun e w'=>∃ qa' qn' qc',e=.returned (.tuple #[.agg #[.int .i64 ses,.int .i64 base,.slice qa' qn' qc'],.nilIface])∧Hid (FLA w.heap.size w' qa' qn' (fs++[⟨kd,nm,n2,bs⟩])∧qn'≤qc')∧Hid (Gq w w'):=by
 refine(wi ses base qa qn qc fs kd a1 a2 n1 c1 n2 c2 nm bs w hq hi hk).mono ?_;rintro e w' ⟨v,rfl,h1,h2⟩;rw[h0];rcases h1.o with ⟨h,_⟩|⟨_,qa',qn',qc',rfl,h3,h4⟩
 ·exact absurd h0 h
 ·exact⟨qa',qn',qc',rfl,aa ⟨h3,h4⟩,h2⟩
theorem of6 {R:Ending→World→Prop} {W:World} {P ub sb hn hc un uc:Nat} {frm to_ ses base:Int} {ha ua qi:Option Addr} {ci:Nat} {qs:List Pk} {ms:List Fr} (HQ:Hid (QL W ua un qs)) (HW:Hid (∀ q∈qs,Mx.QW q)) (hun:un≤900) (HBY:Hid (∀ x∈Mx.bH qs,Mx.by8 x)) (HMS:Hid (ms=Mx.Upd.msgs ⟨frm,to_,qs⟩)) (hml:ms.length≤64) (HO:Hid (∀ k f,ms[k]?=some f→Mx.fX ⟨ses,base,ms.take k⟩ f=0))
 (XU:Hid (Bx W ub #[.int .i64 frm,.int .i64 to_,.slice ua un uc] 213)) (XS:Hid (Bx W sb #[.int .i64 ses,.int .i64 base,.slice qi 0 ci] 105)) {u1 u7 u8 u9 Iy Il Iv Ik Ho Gv Gw Gx Gy Gz GC GD GH GI GJ GK GL GM GO GP GQ GR GS GU GV GX GY GZ Ha Hb Hc He Hf Hg Hh Hi Hj Hk Hl Hm Hn Hp Hq Hr Hs Ht Ia Ib Ic Ie Ig Ih Ii Ij:Value}
 (hQ:∀ (V:World) (qa:Option Addr) (qn qc:Nat) {v1 v2 v7 v8 v9 Kf Jm Jn Jp Lq Lr Ls Lu KJ KK KL KM Km Ko Kp Kg Kq Ks Kt Ku Kv Kw Kx Ky Kz KA KC KD KO KP KQ KR KS KT KU KW KX KY KZ La Lb Kh Ki Kj Kk Kl Jq Jr Js Jt Ju Jv Jw Jy:Value},Hid (Bx V sb #[.int .i64 ses,.int .i64 base,.slice qa qn qc] 105)→Hid (FLA W.heap.size V qa qn ms∧qn≤qc)→Hid (W.grownBy V (some sb))→aB Tryz.f86 R 7 ⟨#[.pointer (some ⟨P,0,none⟩),v1,v2,.pointer (some ⟨ub,0,none⟩),.nilIface,.slice ha hn hc,.pointer (some ⟨sb,0,none⟩),v7,v8,v9,Kf,Jm,Jn,Jp,Lq,Lr,Ls,Lu,KJ,KK,KL,KM,Km,Ko,Kp,Kg,Kq,Ks,Kt,Ku,Kv,Kw,Kx,Ky,Kz,KA,KC,KD,KO,KP,KQ,KR,KS,KT,KU,KW,KX,KY,KZ,La,Lb,Kh,Ki,Kj,Kk,Kl,Jq,Jr,Js,Jt,Ju,Jv,Jw,Jy],[]⟩ V) :
 aB Tryz.f86 R 6 ⟨#[.pointer (some ⟨P,0,none⟩),u1,.nilIface,.pointer (some ⟨ub,0,none⟩),.nilIface,.slice ha hn hc,.pointer (some ⟨sb,0,none⟩),u7,u8,u9,Iy,Il,Iv,Ik,Ho,Gv,Gw,Gx,Gy,Gz,GC,GD,GH,GI,GJ,GK,GL,GM,GO,GP,GQ,GR,GS,GU,GV,GX,GY,GZ,Ha,Hb,Hc,He,Hf,Hg,Hh,Hi,Hj,Hk,Hl,Hm,Hn,Hp,Hq,Hr,Hs,Ht,Ia,Ib,Ic,Ie,Ig,Ih,Ii,Ij],[]⟩ W:=by
 refine aj rfl ?_;intro K hK;obtain⟨x0,x1,x2⟩:=XU.o.three;go_wp2_with fail;refine(sv frm to_ ua un uc qs W HQ.o HW.o hun HBY.o).mono ?_;rintro e w1 ⟨la,ln,lc,rfl,hL,D1⟩;rw[←HMS.o] at hL;obtain⟨a9,c9,hv9,_,hF9⟩:=hL.o.fla (Gi _);have HL:=aa (show FLA W.heap.size w1 la ln ms by injection hv9 with e1 e2 _;rw[e1,e2];exact hF9);have HLN:=aa HL.o.1;have hln:ln≤64:=by have h9:=HLN.o;omega
 clear hv9 hF9 hL x0 x1 x2;have hsW:sb<W.heap.size:=XS.o.lt;have XS1:=aa (XS.o.later D1.o hsW);have G1:=aa (show W.grownBy w1 (some sb) from⟨D1.o.os,D1.o.tape,D1.o.output,D1.o.size,fun k hk _=>D1.o.block k hk⟩);go_upto_region 9 with fail
 go_loopw [4,37] (fun s4 t wr=>∃ (k:Nat) (qa:Option Addr) (qn qc:Nat),k≤ln∧s4=.nilIface∧t=.int .i64 (k:Int)∧Hid (Bx wr sb #[.int .i64 ses,.int .i64 base,.slice qa qn qc] 105)∧Hid (FLA W.heap.size wr qa qn (ms.take k)∧qn≤qc)∧Hid (FLA W.heap.size wr la ln ms)∧Hid (W.grownBy wr (some sb))) (fun _ t _=>ln-(intOf t).toNat)
 case atStart=>exact⟨0,qi,0,ci,Nat.zero_le _,rfl,rfl,XS1,aa ⟨⟨rfl,by rw[aC];omega,fun h=>absurd h (by omega)⟩,Nat.zero_le _⟩,HL,G1⟩
 case round =>
  obtain⟨k,qa,qn,qc,hk,rfl,rfl,hX,hA,hM,hG⟩:=hrel;by_cases hlt:k<ln
  ·have hlti:(k:Int)<(ln:Int):=by omega
   obtain⟨b,off,f,a1,n1,c1,a2,c2,hab,hblt,hx,e0,e1,e2,hi,hbk,_⟩:=hM.o.fl.at_ k hlt;subst hab;have HX:=aa hx;obtain⟨kd,nm,nb,bs⟩:=f;dsimp only at e0 e1 e2 hi hbk;have HI:=aa hi;have HB:=aa hbk;have HOK:=aa (HO.o k _ hx);clear hi hbk hx;obtain⟨W4,hW4⟩:∃ W4:World,Hid (W4=wr.alloc (.cells #[.int .i64 kd,.slice a1 n1 c1,.slice a2 nb c2] 173)):=⟨_,rfl⟩
   have X4:=bxA hW4;have D4:=beA hW4;go_upto_region 11 with fail
   rw[←hW4.o];clear e0 e1 e2;have XS4:=aa (hX.o.later D4.o hX.o.lt);obtain⟨s0,s1,s2⟩:=XS4.o.three;obtain⟨f0,f1,f2⟩:=X4.o.three;go_wp2_with fail;refine(E9 ses base qa qn qc (ms.take k) kd a1 a2 n1 c1 nb c2 nm bs W4 (hA.o.1.fl.later D4.o) (HI.o.later D4.o) (HB.o.later D4.o) HOK.o).mono ?_;rintro e w5 ⟨qa',qn',qc',rfl,h5,D5⟩;have XS5:=aa (XS4.o.later D5.o XS4.o.lt);clear s0 s1 s2 f0 f1 f2;obtain⟨s0,s1,s2⟩:=XS5.o.three;have sz:=XS5.o.frozen;have G5:=aa (show W.grownBy w5 (some sb) from hG.o.trans ⟨D5.o.os.trans D4.o.os,D5.o.tape.trans D4.o.tape,D5.o.output.trans D4.o.output,Gn D4.o.size D5.o.size,fun j hj _=>(D5.o.block j (Gf hj D4.o.size)).trans (D4.o.block j hj)⟩);have hws:W.heap.size≤W4.heap.size:=Gn hG.o.size D4.o.size;obtain⟨W6,hW6⟩:∃ W6:World,Hid (W6=ca w5 sb (.int .i64 ses) (.int .i64 base) (.slice qa' qn' qc')):=⟨_,rfl⟩
   have G6:=aa (show w5.grownBy W6 (some sb) by rw[hW6.o];exact bp (aq _ _) _ _ _);have X6:=aa (show Bx W6 sb #[.int .i64 ses,.int .i64 base,.slice qa' qn' qc'] 105 by rw[hW6.o];exact XS5.o.aH _ _ _);have A6:=aa (show FLA W.heap.size W6 qa' qn' (ms.take (k+1))∧qn'≤qc' from⟨by
    rw[List.take_add_one,HX.o];exact(h5.o.1.low hws).grown G6.o hsW,h5.o.2⟩)
   have M6:=aa (show FLA W.heap.size W6 (some ⟨b,off,none⟩) ln ms from((hM.o.later D4.o).later D5.o).grown G6.o hsW);have G7:=aa (show W.grownBy W6 (some sb) from G5.o.trans G6.o);unfold ca at hW6;go_upto_region 12 with fail
   rw[←hW6.o];clear s0 s1 s2 sz;go_wp2_with fail;go_roundw
   case rel=>exact⟨k+1,qa',qn',qc',by omega,rfl,by go_num,X6,A6,M6,G7⟩
   case measure=>simp[intOf];omega
  ·have hkq:k=ln:=by omega
   subst hkq;have HT:=aa (show ms.take k=ms from Gj (by have:=HLN.o;omega));rw[HT.o] at hA;go_wp2_with fail;exact Met.intro (hQ wr qa qn qc hX hA hG)
end
end Go.Proofs.YtbicgjafjjihdaaGreatDoor
