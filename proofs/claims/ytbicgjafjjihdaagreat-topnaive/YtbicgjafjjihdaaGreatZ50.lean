/- Part. -/
import Derived.Test.YtbicgjafjjihdaaGreatZ47
set_option maxHeartbeats 16000000
set_option maxRecDepth 100000
namespace Go.Proofs.YtbicgjafjjihdaaGreat
open Go.RowKit
section
variable {w v:World} {vl u4 u5 u6 u7 u8 u11 u13 u14 u15 u16 u17 u18 u19 u20 u21 u22 u23 u24 u25 u26 u27 u28 u29 u30 u31 u32 u33 u34 u35 u36 u37 u38 u39 u40 u41 u42 u43 u44 u45 u46 u47 u48 u49 u50 u51 u52 u53 u54 u55 u56 u57 u58 u59 u60 u61 u62 u63 u64 u65 u66 u67 u68 u69 u70 u71 u72 u73 u74 u75 u76 u77 u78 u79 u80 u81 u82 u83 u84 u85 u86 u87 u88 u89 u90 u91 u92 u93 u94 u95 u96 u97 u98 u99 u100 u101 u102 u103 u104 u105 u106 u107 u108 u109:Value} {k g N c i m n:Nat} {a:Option Addr} {l:List Int}
def jm (l:List De):List Value:=l.flatMap De.cs
def ke (w:World) (base:Nat) (v:Value) (l:List De):Prop:=w.ownsRow base 39 11 v l.length (jm l)
theorem Tryz.info39:(Tryz.prog.info? 39).map (fun i=>(i.zero,i.size,i.bytes))=some (some (.agg #[.int .i64 0,.int .i64 0,.int .i64 0,.int .u8 0,.int .u8 0,.int .u8 0,.int .u8 0,.int .u8 0,.int .u8 0,.int .u8 0,.int .u8 0]),11,32):=by kernel_rfl
theorem ke.dl {base:Nat} {v:Value} {l:List De} (h:ke w base v l) (ho:∀ x∈l,x.ok):∃ a c,v=.slice a l.length c∧DL w a l.length l∧∀ p,a=some p→base≤p.block:=by
 obtain⟨a,c,hv,_,hr,hp⟩:=aB h;refine⟨a,c,hv,⟨rfl,ho,fun h0=>?_⟩,hp⟩;obtain⟨b,off,ha,hlt,hc⟩:=hr.2.2 h0;refine⟨b,off,ha,hlt,fun i x hx j u hu=>?_⟩;have hj:j<11:=(FE.1 hu).1;rw[Nat.add_assoc];exact hc (i*11+j) u (by rw[jm,eg De.cs 11 (fun _=>rfl) l i j x hx hj];exact hu)
theorem mY {ops:Array Oper} {rest:List Oper} {o:Oper} {a:Act} {Q:Exit→Act→World→Prop} (hgd:o.guard=none) (s x:Operand)
 (ho:o.op=.call {callee:=.builtin .append,args:=#[s,x],argTypes:=#[22,22]}) (base:Nat) (l:List De) (hown:ke w base (a.eval s) l)
 (p:De) (hx:a.eval x=.slice (some ⟨w.heap.size,0,none⟩) 1 1) (h63:l.length≤1000000) (hbase:base≤w.heap.size)
 (h:∀ ad c w',ke w' base (.slice (some ad) (l.length+1) c) (l++[p])→w.grownBy w' (a.eval s).ownBlock→wpList Tryz.prog ops Q rest (a.put o.dst (.slice (some ad) (l.length+1) c)) w') :
 wpList Tryz.prog ops Q (o::rest) a (w.alloc (.cells #[.int .i64 p.kind,.int .i64 p.at_,.int .i64 p.from_,.int .u8 p.d.z0,.int .u8 p.d.z1,.int .u8 p.d.z2,.int .u8 p.d.z3,.int .u8 p.d.z4,.int .u8 p.d.z5,.int .u8 p.d.z6,.int .u8 p.d.z7] 39)):=by
 obtain⟨i0,hi,hz0,hz1,hz2⟩:=info_parts Tryz.info39;refine wpList_append_own _ hgd s x 22 ho base 39 i0 _ 11 32 Tryz.underlying22 hi hz0 hz1 hz2 rfl (by decide) (a.eval s) l.length (jm l) rfl (World.ownsRow.alloc hown _) ⟨w.heap.size,0,none⟩ 1 1 (jm [p]) hx (by simp[jm,De.cs]) (fun j u hj=>by
  have hadd:(⟨w.heap.size,0,none⟩:Addr).add j=⟨w.heap.size,j,none⟩:=by unfold Addr.add;split<;>simp_all
  rw[hadd,World.cell?_alloc_new];simpa [jm,De.cs] using hj) (by intro u hu;simp[jm,De.cs] at hu;rcases hu with rfl|rfl|rfl|rfl|rfl|rfl|rfl|rfl|rfl|rfl|rfl<;>rfl) (by unfold maxLen;omega) (by omega) (by simp;omega) ?_
 intro v' w' hown' hg _;have hI:ke w' base v' (l++[p]):=by
  unfold ke;rw[Fy,jm,List.flatMap_append];exact hown'
 have hg':w.grownBy w' (a.eval s).ownBlock:=⟨hg.os,hg.tape,hg.output,by have:=hg.size;simp at this;omega,fun k hk hne=>(hg.block k (by simp;omega) hne).trans (Below.heap_alloc w _ k hk)⟩
 rcases hown'.2 with ⟨_,hz⟩|⟨g,cap,cur,rfl,hbg,_⟩
 ·simp at hz
 ·exact h _ _ w' hI hg'
def ScI (w v:World) (vl:Value) (k:Nat):Prop:=∃ ds:List De,ds.length=k∧(∀ x∈ds,x.ok)∧ke v w.heap.size vl ds∧Below w.heap.size w v
theorem ScI.later {v':World} (h:ScI w v vl k) (hb:Below v.heap.size v v'):ScI w v' vl k:=by
 obtain⟨ds,h1,h2,h3,h4⟩:=h;exact⟨ds,h1,h2,bm h3 hb,h4.trans (hb.mono h4.size)⟩
theorem ScI.bel (h:ScI w v vl k):Below w.heap.size w v:=by
 obtain⟨_,_,_,_,h⟩:=h;exact h
theorem B8.ok.by8 {y:B8} (h:y.ok):Mx.by8 y:=⟨h _ (by simp[Mx.bytesOf]),h _ (by simp[Mx.bytesOf]),h _ (by simp[Mx.bytesOf]),h _ (by simp[Mx.bytesOf]),h _ (by simp[Mx.bytesOf]),h _ (by simp[Mx.bytesOf]),h _ (by simp[Mx.bytesOf]),h _ (by simp[Mx.bytesOf])⟩
def De.arr (x:De):Array Value:=#[.int .i64 x.kind,.int .i64 x.at_,.int .i64 x.from_,.int .u8 x.d.z0,.int .u8 x.d.z1,.int .u8 x.d.z2,.int .u8 x.d.z3,.int .u8 x.d.z4,.int .u8 x.d.z5,.int .u8 x.d.z6,.int .u8 x.d.z7]
def ScB (w v:World) (vl:Value) (k g:Nat) (x:De):Prop:=ScI w v vl k∧Bx v g x.arr 39∧vl.ownBlock≠some g∧w.heap.size≤g
theorem ScB.later {w v v':World} {vl:Value} {k g:Nat} {x:De} (h:ScB w v vl k g x) (hb:Below v.heap.size v v'):ScB w v' vl k g x:=⟨h.1.later hb,h.2.1.later hb h.2.1.lt,h.2.2⟩
theorem ScI.set (h:ScI w v vl k) (j:Nat) (u:Value) (h1:vl.ownBlock≠some g) (h2:w.heap.size≤g):ScI w (v.setCell ⟨g,j,none⟩ u) vl k:=by
 obtain⟨ds,h3,h4,h5,h6⟩:=h;exact⟨ds,h3,h4,az h5 ⟨g,j,none⟩ u h1,h6.setCell (p:=⟨g,j,none⟩) h2 u⟩
theorem ScB.kind {w v:World} {vl:Value} {k g:Nat} {x:De} (h:ScB w v vl k g x) (y:Int):ScB w (v.setCell ⟨g,0,none⟩ (.int .i64 y)) vl k g {x with kind:=y}:=⟨h.1.set _ _ h.2.2.1 h.2.2.2,h.2.1.set 0 _,h.2.2⟩
theorem ScB.at_ {w v:World} {vl:Value} {k g:Nat} {x:De} (h:ScB w v vl k g x) (y:Int):ScB w (v.setCell ⟨g,1,none⟩ (.int .i64 y)) vl k g {x with at_:=y}:=⟨h.1.set _ _ h.2.2.1 h.2.2.2,h.2.1.set 1 _,h.2.2⟩
theorem ScB.data {x:De} (h:ScB w v vl k g x) (y:B8):ScB w (aS v g 3 y) vl k g {x with d:=y}:=by
 obtain⟨h1,h2,h3⟩:=h;have q:∀ (v:World) (j:Nat) (u:Value),ScI w v vl k→ScI w (v.setCell ⟨g,j,none⟩ u) vl k:=fun v j u h=>h.set j u h3.1 h3.2
 refine⟨?_,?_,h3⟩
 ·unfold aS
  iterate 8 refine q _ _ _ ?_
  exact h1
 ·have h8:=(((((((h2.set 3 (.int .u8 y.z0)).set 4 (.int .u8 y.z1)).set 5 (.int .u8 y.z2)).set 6 (.int .u8 y.z3)).set 7 (.int .u8 y.z4)).set 8 (.int .u8 y.z5)).set 9 (.int .u8 y.z6)).set 10 (.int .u8 y.z7)
  simp only[De.arr,List.setIfInBounds_toArray,List.set_cons_succ,List.set_cons_zero] at h8;exact h8
theorem sc3 {P:Ending→World→Prop} {Kn Kr K0:Act→World→Prop} {x:De} (HB:Hid (ScB w v vl k g x)) (ho:x.ok) (hk:k≤1000) (hQ:∀ (vl':Value) (x':World) (v11 v12 v18 v19 v20 v21 v22 v23 v24 v25 v26 v27 v28 v29 v30 v31 v32 v33 v34 v35 v36 v37 v38 v39 v40 v41 v42 v43 v44 v45 v46 v47 v48 v49 v50 v51 v52 v53 v54 v55 v56 v57 v58 v59 v60 v61 v62 v63 v64 v65 v66 v67 v68 v69 v70 v71 v72 v73 v74 v75 v76 v77 v78 v79 v80 v81 v82 v83 v84 v85 v86 v87 v88 v89 v90 v91 v92 v93 v94 v95 v96 v97 v98 v99 v100 v101 v102 v103 v104 v105 v106 v107 v108:Value),Hid (ScI w x' vl' (k+1))→Kn ⟨#[.slice a N c,.int .i64 (i:Int),.int .i64 (m:Int),.int .i64 (n:Int),u4,u5,u6,u7,u8,vl',.int .i64 (k:Int),v11,v12,u13,u14,u15,u16,u17,v18,v19,v20,v21,v22,v23,v24,v25,v26,v27,v28,v29,v30,v31,v32,v33,v34,v35,v36,v37,v38,v39,v40,v41,v42,v43,v44,v45,v46,v47,v48,v49,v50,v51,v52,v53,v54,v55,v56,v57,v58,v59,v60,v61,v62,v63,v64,v65,v66,v67,v68,v69,v70,v71,v72,v73,v74,v75,v76,v77,v78,v79,v80,v81,v82,v83,v84,v85,v86,v87,v88,v89,v90,v91,v92,v93,v94,v95,v96,v97,v98,v99,v100,v101,v102,v103,v104,v105,v106,v107,v108,u109],[]⟩ x') :
 fe (qZ (mI (fV 2 (Tryz.f13.body.getD .skip)))) (Exit.inBlock 1 (Exit.then Kn (Exit.then Kr (Exit.inBlock 0 (Exit.then K0 (bodyPost Tryz.prog Tryz.f13 P)))))) 3 ⟨#[.slice a N c,.int .i64 (i:Int),.int .i64 (m:Int),.int .i64 (n:Int),u4,u5,u6,u7,u8,vl,.int .i64 (k:Int),u11,.pointer (some ⟨g,0,none⟩),u13,u14,u15,u16,u17,u18,u19,u20,u21,u22,u23,u24,u25,u26,u27,u28,u29,u30,u31,u32,u33,u34,u35,u36,u37,u38,u39,u40,u41,u42,u43,u44,u45,u46,u47,u48,u49,u50,u51,u52,u53,u54,u55,u56,u57,u58,u59,u60,u61,u62,u63,u64,u65,u66,u67,u68,u69,u70,u71,u72,u73,u74,u75,u76,u77,u78,u79,u80,u81,u82,u83,u84,u85,u86,u87,u88,u89,u90,u91,u92,u93,u94,u95,u96,u97,u98,u99,u100,u101,u102,u103,u104,u105,u106,u107,u108,u109],[]⟩ v:=by
 have HO:=aa ho;obtain⟨⟨ds,h1,h2,h3,h4⟩,hx,h6⟩:=HB.o;have O1:=aa h3;have D1:=aa h4;have H2:=aa h2;have H1:=aa h1;have S1:=aa h4.size;have y0:=hx.cell 0;have y1:=hx.cell 1;have y2:=hx.cell 2;have y3:=hx.cell 3;have y4:=hx.cell 4;have y5:=hx.cell 5;have y6:=hx.cell 6;have y7:=hx.cell 7;have y8:=hx.cell 8;have y9:=hx.cell 9;have y10:=hx.cell 10;simp only[De.arr,Fx,Fw,Fv] at y0 y1 y2 y3 y4 y5 y6 y7 y8 y9 y10;have HQ:=aa @hQ;clear hx h1 h2 h3 h4 h6 ho hQ;refine oy (c':=.region _ _ _) rfl ?_;go_wp2_with (at_builtin;refine mY rfl _ _ rfl w.heap.size ds ?o1 x ?o2 ?o3 ?o4 ?_);case o1=>exact O1.o
 case o3=>have:=H1.o;omega
 case o4=>exact S1.o
 intro ad c2 w3 hown hgr;have R3:=aa (show ScI w w3 (.slice (some ad) (ds.length+1) c2) (k+1) from⟨ds++[x],by rw[Fy,H1.o];rfl,fun y hy=>by
  rcases List.mem_append.1 hy with h|h
  ·exact H2.o y h
  ·rw[List.mem_singleton.1 h];exact HO.o,hown,D1.o.grown hgr S1.o (fun k hk=>(World.ownsRow.lt O1.o k hk).1)⟩)
 clear hown hgr y0 y1 y2 y3 y4 y5 y6 y7 y8 y9 y10;go_wp2_with fail;exact HQ.o _ _ _ _ _ _ _ _ _ _ _ _ _ _ _ _ _ _ _ _ _ _ _ _ _ _ _ _ _ _ _ _ _ _ _ _ _ _ _ _ _ _ _ _ _ _ _ _ _ _ _ _ _ _ _ _ _ _ _ _ _ _ _ _ _ _ _ _ _ _ _ _ _ _ _ _ _ _ _ _ _ _ _ _ _ _ _ _ _ _ _ _ _ _ _ R3
theorem sc2 {P:Ending→World→Prop} {Kn Kr K0:Act→World→Prop} {x:Nat} {at_ fr:Int} (HL:Hid (ay w a N l∧I64 l)) (HB:Hid (ScB w v vl k g ⟨0,at_,fr,zB⟩)) (ho:De.ok ⟨0,at_,fr,zB⟩) (hk:k≤1000) (hn:N≤1000) (hi:i≤10000) (hx:(x:Int)≤1000000000) (hQ:∀ (vl':Value) (x':World) (v11 v12 v18 v19 v20 v21 v22 v23 v24 v25 v26 v27 v28 v29 v30 v31 v32 v33 v34 v35 v36 v37 v38 v39 v40 v41 v42 v43 v44 v45 v46 v47 v48 v49 v50 v51 v52 v53 v54 v55 v56 v57 v58 v59 v60 v61 v62 v63 v64 v65 v66 v67 v68 v69 v70 v71 v72 v73 v74 v75 v76 v77 v78 v79 v80 v81 v82 v83 v84 v85 v86 v87 v88 v89 v90 v91 v92 v93 v94 v95 v96 v97 v98 v99 v100 v101 v102 v103 v104 v105 v106 v107 v108:Value),Hid (ScI w x' vl' (k+1))→Kn ⟨#[.slice a N c,.int .i64 (i:Int),.int .i64 (m:Int),.int .i64 (n:Int),u4,u5,u6,u7,u8,vl',.int .i64 (k:Int),v11,v12,u13,u14,u15,u16,u17,v18,v19,v20,v21,v22,v23,v24,v25,v26,v27,v28,v29,v30,v31,v32,v33,v34,v35,v36,v37,v38,v39,v40,v41,v42,v43,v44,v45,v46,v47,v48,v49,v50,v51,v52,v53,v54,v55,v56,v57,v58,v59,v60,v61,v62,v63,v64,v65,v66,v67,v68,v69,v70,v71,v72,v73,v74,v75,v76,v77,v78,v79,v80,v81,v82,v83,v84,v85,v86,v87,v88,v89,v90,v91,v92,v93,v94,v95,v96,v97,v98,v99,v100,v101,v102,v103,v104,v105,v106,v107,v108,u109],[]⟩ x') :
 fe (qZ (mI (fV 2 (Tryz.f13.body.getD .skip)))) (Exit.inBlock 1 (Exit.then Kn (Exit.then Kr (Exit.inBlock 0 (Exit.then K0 (bodyPost Tryz.prog Tryz.f13 P)))))) 2 ⟨#[.slice a N c,.int .i64 (i:Int),.int .i64 (m:Int),.int .i64 (n:Int),u4,u5,u6,u7,u8,vl,.int .i64 (k:Int),.int .i64 (x:Int),.pointer (some ⟨g,0,none⟩),u13,u14,u15,u16,u17,u18,u19,u20,u21,u22,u23,u24,u25,u26,u27,u28,u29,u30,u31,u32,u33,u34,u35,u36,u37,u38,u39,u40,u41,u42,u43,u44,u45,u46,u47,u48,u49,u50,u51,u52,u53,u54,u55,u56,u57,u58,u59,u60,u61,u62,u63,u64,u65,u66,u67,u68,u69,u70,u71,u72,u73,u74,u75,u76,u77,u78,u79,u80,u81,u82,u83,u84,u85,u86,u87,u88,u89,u90,u91,u92,u93,u94,u95,u96,u97,u98,u99,u100,u101,u102,u103,u104,u105,u106,u107,u108,u109],[]⟩ v:=by
 have HO:=aa ho;have HBX:=aa HB.o.2.1;have y0:=HBX.o.cell 0;have y1:=HBX.o.cell 1;have y3:=HBX.o.cell 3;have y4:=HBX.o.cell 4;have y5:=HBX.o.cell 5;have y6:=HBX.o.cell 6;have y7:=HBX.o.cell 7;have y8:=HBX.o.cell 8;have y9:=HBX.o.cell 9;have y10:=HBX.o.cell 10;simp only[De.arr,zB,Fx,Fw,Fv] at y0 y1 y3 y4 y5 y6 y7 y8 y9 y10;have yz:=HBX.o.frozen;have HQ:=aa @hQ;clear ho hQ;refine cS rfl ?_;intro K hK;have h20:((x:Int)%20=0∨(x:Int)%20=1∨(x:Int)%20=2∨(x:Int)%20=3∨(x:Int)%20=4)∨((x:Int)%20=5)∨((x:Int)%20=6)∨((x:Int)%20=7∨(x:Int)%20=8∨(x:Int)%20=9)∨((x:Int)%20=10∨(x:Int)%20=11∨(x:Int)%20=12)∨((x:Int)%20=19)∨((x:Int)%20=13∨(x:Int)%20=14∨(x:Int)%20=15)∨((x:Int)%20=16)∨((x:Int)%20=17)∨(x:Int)%20=18:=by omega
 have OK:=aa (show ∀ q,De.ok ⟨q,at_,fr,zB⟩ from fun _=>⟨HO.o.a0,HO.o.a1,HO.o.f0,HO.o.f1,HO.o.b8⟩);have OA:=aa (show ∀ q,De.ok ⟨q,(x:Int)/40%7,fr,zB⟩ from fun _=>⟨by show _≤(x:Int)/40%7;omega,by show(x:Int)/40%7≤_;omega,HO.o.f0,HO.o.f1,HO.o.b8⟩);have dat:∀ (v' w2:World) (q:De) (y:B8),ScB w v' vl k g q→Below v'.heap.size v' w2→∃ z0 z1 z2 z3 z4 z5 z6 z7:Value,w2.cell? ⟨g,3,none⟩=some z0∧w2.cell? ⟨g,4,none⟩=some z1∧w2.cell? ⟨g,5,none⟩=some z2∧w2.cell? ⟨g,6,none⟩=some z3∧w2.cell? ⟨g,7,none⟩=some z4∧w2.cell? ⟨g,8,none⟩=some z5∧w2.cell? ⟨g,9,none⟩=some z6∧w2.cell? ⟨g,10,none⟩=some z7∧(∀ o,w2.frozen? ⟨g,o,none⟩=false)∧Hid (ScB w (aS w2 g 3 y) vl k g {q with d:=y}):=fun v' w2 q y h hb=>by
  have h2:=h.later hb;exact⟨_,_,_,_,_,_,_,_,h2.2.1.cell 3,h2.2.1.cell 4,h2.2.1.cell 5,h2.2.1.cell 6,h2.2.1.cell 7,h2.2.1.cell 8,h2.2.1.cell 9,h2.2.1.cell 10,h2.2.1.frozen,aa (h2.data y)⟩
 have DAT:=aa dat;clear dat;rcases h20 with h|h|h|h|h|h|h|h|h|h
 ·rcases h with h|h|h|h|h
  all_goals
   go_wp2_with fail;refine(kR a N c l (i+3*k) _ (HL.o.1.later (HB.o.kind 0).1.bel) HL.o.2 hn (by omega)).mono ?_;rintro e w2 ⟨y,hy,rfl,hb2⟩;have HY:=aa hy;obtain⟨z0,z1,z2,z3,z4,z5,z6,z7,c0,c1,c2,c3,c4,c5,c6,c7,cz,B2⟩:=DAT.o _ w2 _ y (HB.o.kind 0) hb2.o;clear hb2 hy yz y0 y1 y3 y4 y5 y6 y7 y8 y9 y10;unfold aS at B2;go_wp2_with fail;exact Met.intro (sc3 B2 ⟨HO.o.a0,HO.o.a1,HO.o.f0,HO.o.f1,HY.o.by8⟩ hk HQ.o)
 ·go_wp2_with fail
  exact Met.intro (sc3 (aa (HB.o.kind 1)) (OK.o _) hk HQ.o)
 ·go_wp2_with fail
  exact Met.intro (sc3 (aa (HB.o.kind 2)) (OK.o _) hk HQ.o)
 ·rcases h with h|h|h
  all_goals
   go_wp2_with fail;exact Met.intro (sc3 (aa (HB.o.kind 3)) (OK.o _) hk HQ.o)
 ·rcases h with h|h|h
  all_goals
   go_wp2_with fail;exact Met.intro (sc3 (aa (HB.o.kind 4)) (OK.o _) hk HQ.o)
 ·go_wp2_with fail
  exact Met.intro (sc3 (aa (HB.o.kind (8+(x:Int)/40%2))) (OK.o _) hk HQ.o)
 ·rcases h with h|h|h
  all_goals
   go_wp2_with fail;exact Met.intro (sc3 (aa ((HB.o.kind 5).at_ ((x:Int)/40%7))) (OA.o _) hk HQ.o)
 ·go_wp2_with fail
  exact Met.intro (sc3 (aa ((HB.o.kind 6).at_ ((x:Int)/40%7))) (OA.o _) hk HQ.o)
 ·go_wp2_with fail
  exact Met.intro (sc3 (aa ((HB.o.kind 7).at_ ((x:Int)/40%7))) (OA.o _) hk HQ.o)
 ·go_wp2_with fail
  have HK:=aa ((HB.o.kind 10).at_ ((x:Int)/40%7));refine(kR a N c l (i+2*k) _ (HL.o.1.later HK.o.1.bel) HL.o.2 hn (by omega)).mono ?_;rintro e w2 ⟨y,hy,rfl,hb2⟩;have HY:=aa hy;obtain⟨z0,z1,z2,z3,z4,z5,z6,z7,c0,c1,c2,c3,c4,c5,c6,c7,cz,B2⟩:=DAT.o _ w2 _ y HK.o hb2.o;clear hb2 hy yz y0 y1 y3 y4 y5 y6 y7 y8 y9 y10 HK;unfold aS at B2;go_wp2_with fail;exact Met.intro (sc3 B2 ⟨by show _≤(x:Int)/40%7;omega,by show(x:Int)/40%7≤_;omega,HO.o.f0,HO.o.f1,HY.o.by8⟩ hk HQ.o)
theorem sc0 {P:Ending→World→Prop} {Kn Kr K0:Act→World→Prop} (HL:Hid (ay w a N l∧I64 l)) (HI:Hid (ScI w v vl k)) (hk:k≤1000) (hn:N≤1000) (hi:i≤10000) (h1:1≤n) (h2:n≤1000) {u12:Value} (hQ:∀ (vl':Value) (x':World) (v11 v12 v18 v19 v20 v21 v22 v23 v24 v25 v26 v27 v28 v29 v30 v31 v32 v33 v34 v35 v36 v37 v38 v39 v40 v41 v42 v43 v44 v45 v46 v47 v48 v49 v50 v51 v52 v53 v54 v55 v56 v57 v58 v59 v60 v61 v62 v63 v64 v65 v66 v67 v68 v69 v70 v71 v72 v73 v74 v75 v76 v77 v78 v79 v80 v81 v82 v83 v84 v85 v86 v87 v88 v89 v90 v91 v92 v93 v94 v95 v96 v97 v98 v99 v100 v101 v102 v103 v104 v105 v106 v107 v108:Value),Hid (ScI w x' vl' (k+1))→Kn ⟨#[.slice a N c,.int .i64 (i:Int),.int .i64 (m:Int),.int .i64 (n:Int),u4,u5,u6,u7,u8,vl',.int .i64 (k:Int),v11,v12,u13,u14,u15,u16,u17,v18,v19,v20,v21,v22,v23,v24,v25,v26,v27,v28,v29,v30,v31,v32,v33,v34,v35,v36,v37,v38,v39,v40,v41,v42,v43,v44,v45,v46,v47,v48,v49,v50,v51,v52,v53,v54,v55,v56,v57,v58,v59,v60,v61,v62,v63,v64,v65,v66,v67,v68,v69,v70,v71,v72,v73,v74,v75,v76,v77,v78,v79,v80,v81,v82,v83,v84,v85,v86,v87,v88,v89,v90,v91,v92,v93,v94,v95,v96,v97,v98,v99,v100,v101,v102,v103,v104,v105,v106,v107,v108,u109],[]⟩ x') :
 fe (qZ (mI (fV 2 (Tryz.f13.body.getD .skip)))) (Exit.inBlock 1 (Exit.then Kn (Exit.then Kr (Exit.inBlock 0 (Exit.then K0 (bodyPost Tryz.prog Tryz.f13 P)))))) 0 ⟨#[.slice a N c,.int .i64 (i:Int),.int .i64 (m:Int),.int .i64 (n:Int),u4,u5,u6,u7,u8,vl,.int .i64 (k:Int),u11,u12,u13,u14,u15,u16,u17,u18,u19,u20,u21,u22,u23,u24,u25,u26,u27,u28,u29,u30,u31,u32,u33,u34,u35,u36,u37,u38,u39,u40,u41,u42,u43,u44,u45,u46,u47,u48,u49,u50,u51,u52,u53,u54,u55,u56,u57,u58,u59,u60,u61,u62,u63,u64,u65,u66,u67,u68,u69,u70,u71,u72,u73,u74,u75,u76,u77,u78,u79,u80,u81,u82,u83,u84,u85,u86,u87,u88,u89,u90,u91,u92,u93,u94,u95,u96,u97,u98,u99,u100,u101,u102,u103,u104,u105,u106,u107,u108,u109],[]⟩ v:=by
 have HQ:=aa @hQ;clear hQ;refine cS rfl ?_;intro K hK;go_wp2_with fail;refine(oS a N c l (i+k) v (HL.o.1.later HI.o.bel) HL.o.2 hn (by omega)).mono ?_;rintro e w1 ⟨x,hx,rfl,q,rfl⟩;have I1:=aa (HI.o.later (below_drewN (Below.refl _ _) q));obtain⟨w1,hw1⟩:∃ w1:World,Hid (w1=v.drewN q):=⟨_,rfl⟩
 rw[←hw1.o] at I1 ⊢;go_wp2_with fail;refine Met.intro (cS rfl ?_);intro K2 hK2;have hn0:¬n=0:=by omega
 have hni:¬(n:Int)=0:=by omega
 have e1:=Int.emod_nonneg ((x:Int)/40) hni;have e2:=Int.emod_lt_of_pos ((x:Int)/40) (show(0:Int)<n by omega);have OK:=aa (show De.ok ⟨0,(x:Int)/40%(n:Int),(x:Int)/7%90,zB⟩ from⟨by show _≤(x:Int)/40%(n:Int);omega,by show(x:Int)/40%(n:Int)≤_;omega,by show _≤(x:Int)/7%90;omega,by show(x:Int)/7%90≤_;omega,Mx.jQ⟩);have B2:=aa (show ScB w (w1.alloc (.cells #[.int .i64 0,.int .i64 ((x:Int)/40%(n:Int)),.int .i64 ((x:Int)/7%90),.int .u8 0,.int .u8 0,.int .u8 0,.int .u8 0,.int .u8 0,.int .u8 0,.int .u8 0,.int .u8 0] 39)) vl k w1.heap.size ⟨0,(x:Int)/40%(n:Int),(x:Int)/7%90,zB⟩ from⟨I1.o.later (af _ _),Bx.new w1 _ _,fun e=>by obtain⟨ds,_,_,h,_⟩:=I1.o;have h9:=(World.ownsRow.lt h _ e).2;omega,I1.o.bel.size⟩);clear e1 e2;go_wp2_with fail;exact Met.intro (sc2 HL B2 OK.o hk hn hi hx HQ.o)
theorem j4 (a:Option Addr) (N c:Nat) (l:List Int) (i m n:Nat) (w:World) (hl:ay w a N l) (hb:I64 l) (hn:N≤1000) (hi:i≤10000) (hm:m≤1000) (h1:1≤n) (h2:n≤1000) :
 Calls Tryz.prog 13 #[.slice a N c,.int .i64 (i:Int),.int .i64 (m:Int),.int .i64 (n:Int)] w fun e w'=>∃ a' c' ds,e=.returned (.slice a' m c')∧Hid (DL w' a' m ds)∧Hid (∀ p,a'=some p→w.heap.size≤p.block)∧Hid (Below w.heap.size w w'):=by
 have HL:=aa (And.intro hl hb);clear hl hb;go_enter Tryz.func13,Tryz.ntmps13;go_wp2_with fail;go_loopw [9,10] (fun vl t wr=>∃ k:Nat,t=.int .i64 (k:Int)∧k≤m∧Hid (ScI w wr vl k)) (fun _ t _=>m-(intOf t).toNat)
 case atStart=>exact⟨0,rfl,Nat.zero_le _,⟨[],rfl,(by intro x h;cases h),World.ownsRow_nil w w.heap.size 39 11,Below.refl _ _⟩⟩
 case round =>
  rename_i vl _ _;obtain⟨k,rfl,hk,HI⟩:=hrel;by_cases hlt:(k:Int)<m
  ·obtain⟨v,hv⟩:∃ v:World,Hid (v=wr):=⟨_,rfl⟩
   rw[←hv.o] at HI ⊢;refine te ?_;intro K1 hK1;go_wp2_with fail;refine Met.intro (te ?_);intro K2 hK2;refine wp_block ?_;refine(show fe (qZ (mI (fV 2 (Tryz.f13.body.getD .skip)))) _ 0 _ v from sc0 HL HI (by omega) hn hi h1 h2 ?_);intro vl' x' v11 v12 v18 v19 v20 v21 v22 v23 v24 v25 v26 v27 v28 v29 v30 v31 v32 v33 v34 v35 v36 v37 v38 v39 v40 v41 v42 v43 v44 v45 v46 v47 v48 v49 v50 v51 v52 v53 v54 v55 v56 v57 v58 v59 v60 v61 v62 v63 v64 v65 v66 v67 v68 v69 v70 v71 v72 v73 v74 v75 v76 v77 v78 v79 v80 v81 v82 v83 v84 v85 v86 v87 v88 v89 v90 v91 v92 v93 v94 v95 v96 v97 v98 v99 v100 v101 v102 v103 v104 v105 v106 v107 v108 V';refine hK2 _ _ (Met.intro ?_);clear hK2;show Code.wp _ _ _ _ _
   go_wp2_with fail;go_roundw
   case rel=>exact⟨k+1,by go_num,by omega,V'⟩
   case measure=>simp[intOf];omega
  ·obtain rfl:k=m:=by omega
   obtain⟨ds,g1,g2,g3,g4⟩:=HI.o;obtain⟨a',c',rfl,g5,g6⟩:=g3.dl g2;rw[g1] at g5 ⊢;have H5:=aa g5;have H6:=aa g6;have H4:=aa g4;clear g1 g2 g3 g4 g5 g6 HI;go_wp2_with fail;go_ret;exact⟨a',⟨c',rfl⟩,⟨ds,H5⟩,H6,H4⟩
end
end Go.Proofs.YtbicgjafjjihdaaGreat
