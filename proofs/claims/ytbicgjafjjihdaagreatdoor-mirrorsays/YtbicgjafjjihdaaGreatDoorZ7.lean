/- Part. -/
import Derived.Deep.RegionHeld
import Derived.Deep.CutRange
import Derived.Deep.DeepCutAuto
import Derived.Deep.Onto
import Derived.Test.YtbicgjafjjihdaaGreatDoorZ6
set_option maxHeartbeats 16000000
set_option maxRecDepth 100000
namespace Go.Proofs.YtbicgjafjjihdaaGreatDoor
section
open Go.RowKit
variable {w w' w1 wX wB W:World} {g B g' base e size n:Nat} {cs:Array Value} {t t':TypeId} {s0 s1 s2 s0' s1' s2' v v1 v2 z0 z1 z2:Value} {xs:List Value}
def Bx (w:World) (g:Nat) (cs:Array Value) (t:TypeId):Prop:=w.heap[g]?=some (.cells cs t (0,0))
theorem Bx.new (w:World) (cs:Array Value) (t:TypeId):Bx (w.alloc (.cells cs t)) w.heap.size cs t:=heap_alloc_new w _
theorem Bx.dj (w:World) (cs:Array Value) (t:TypeId):Bx (w.alloc (.cells cs t)).drew w.heap.size cs t:=heap_alloc_new w _
theorem Bx.lt (h:Bx w g cs t):g<w.heap.size:=(Array.getElem?_eq_some_iff.1 h).1
theorem Bx.alloc {w:World} {g:Nat} {cs:Array Value} {t:TypeId} (h:Bx w g cs t) (o:Obj):Bx (w.alloc o) g cs t:=(Below.heap_alloc w o g h.lt).trans h
theorem Bx.later (h:Bx w g cs t) (hb:Below B w w') (hg:g<B):Bx w' g cs t:=(hb.block g hg).trans h
theorem Bx.cell {w:World} {g:Nat} {cs:Array Value} {t:TypeId} (h:Bx w g cs t) (j:Nat):w.cell? ⟨g,j,none⟩=cs[j]?:=cD h j
theorem Bx.frozen {w:World} {g:Nat} {cs:Array Value} {t:TypeId} (h:Bx w g cs t) (o:Nat):w.frozen? ⟨g,o,none⟩=false:=by unfold World.frozen?;rw[h];simp
theorem Bx.set (h:Bx w g cs t) (j:Nat) (v:Value):Bx (w.setCell ⟨g,j,none⟩ v) g (cs.setIfInBounds j v) t:=by
 unfold Bx at *;simp[World.setCell,Array.getElem?_modify,h]
theorem Bx.other (h:Bx w g cs t) (p:Addr) (v:Value) (hp:g≠p.block):Bx (w.setCell p v) g cs t:=(Below.heap_setCell w p v g hp).trans h
theorem Bx.three (h:Bx w g #[s0,s1,s2] t):w.cell? ⟨g,0,none⟩=some s0∧w.cell? ⟨g,1,none⟩=some s1∧w.cell? ⟨g,2,none⟩=some s2:=⟨h.cell 0,h.cell 1,h.cell 2⟩
theorem Bx.eight {x:B8} (h:Bx w g #[.int .u8 x.z0,.int .u8 x.z1,.int .u8 x.z2,.int .u8 x.z3,.int .u8 x.z4,.int .u8 x.z5,.int .u8 x.z6,.int .u8 x.z7] t) :
 w.cell? ⟨g,0,none⟩=some (.int .u8 x.z0)∧w.cell? ⟨g,1,none⟩=some (.int .u8 x.z1)∧w.cell? ⟨g,2,none⟩=some (.int .u8 x.z2)∧w.cell? ⟨g,3,none⟩=some (.int .u8 x.z3) ∧
 w.cell? ⟨g,4,none⟩=some (.int .u8 x.z4)∧w.cell? ⟨g,5,none⟩=some (.int .u8 x.z5)∧w.cell? ⟨g,6,none⟩=some (.int .u8 x.z6)∧w.cell? ⟨g,7,none⟩=some (.int .u8 x.z7) :=
 ⟨h.cell 0,h.cell 1,h.cell 2,h.cell 3,h.cell 4,h.cell 5,h.cell 6,h.cell 7⟩
def ij (w1 w w':World):Prop:=Gq w1 w'∧Gq w w'
def DC (w:World) (g:Nat) (s0 s1 s2:Value):Prop:=w.cell? ⟨g,0,none⟩=some s0∧w.cell? ⟨g,1,none⟩=some s1∧w.cell? ⟨g,2,none⟩=some s2∧g<w.heap.size∧∀ o,w.frozen? ⟨g,o,none⟩=false
theorem Bx.dc (h:Bx w g #[s0,s1,s2] t):DC w g s0 s1 s2:=⟨h.cell 0,h.cell 1,h.cell 2,h.lt,h.frozen⟩
abbrev cF (w1:World) (g:Nat) (s0 s1 s2:Value) (w':World):Prop:=w'.cell? ⟨g,0,none⟩=some s0∧w'.cell? ⟨g,1,none⟩=some s1∧w'.cell? ⟨g,2,none⟩=some s2∧Gq w1 w'
theorem cF.of (hd:Bx w1 g #[s0,s1,s2] t) (h:Gq w1 w'):cF w1 g s0 s1 s2 w':=by
 obtain⟨h0,h1,h2⟩:=(hd.later h hd.lt).three;exact⟨h0,h1,h2,h⟩
theorem cF.alloc {w1 w':World} {g:Nat} {s0 s1 s2:Value} {t:TypeId} (hd:Bx w1 g #[s0,s1,s2] t) (h:cF w1 g s0 s1 s2 w') (o:Obj):cF w1 g s0 s1 s2 (w'.alloc o):=cF.of hd (h.2.2.2.alloc h.2.2.2.size o)
theorem cF.drew {w1:World} {g:Nat} {s0 s1 s2:Value} {t:TypeId} (hd:Bx w1 g #[s0,s1,s2] t):cF w1 g s0 s1 s2 w1.drew:=cF.of hd (Below.refl _ _).drew
theorem cF.set (hd:Bx w1 g #[s0,s1,s2] t) (h:cF w1 g s0 s1 s2 w') (p:Addr) (hp:w1.heap.size≤p.block) (v:Value):cF w1 g s0 s1 s2 (w'.setCell p v):=cF.of hd (h.2.2.2.setCell hp v)
theorem lj (a:Option Addr) (n c:Nat) (l:List B8) (w:World) (hl:BL w1 a n l) (hn:n≤1000000) (hd:Bx w1 g #[s0,s1,s2] t) (hb:Gq w1 w) :
 Calls Tryz.prog 95 #[.slice a n c] w fun e w'=>∃ a' c',e=.returned (.slice a' n c')∧Hid (au w' w.heap.size (.slice a' n c') l)∧Hid (ij w1 w w')∧DC w' g s0 s1 s2:=by
 refine(iv a n c l w (hl.later hb) hn).mono ?_;rintro e w' ⟨v,rfl,ho,hb'⟩;obtain⟨a',c',hv,_⟩:=aA ho;rw[hl.1] at hv;subst hv;have h2:=hb.trans (hb'.mono hb.size);exact⟨a',c',rfl,ho,⟨h2,hb'⟩,(hd.later h2 hd.lt).dc⟩
theorem iw (a:Option Addr) (n c:Nat) (l:List B8) (w:World) (hl:BL w1 a n l) (hn:n≤1000000) (hd:Bx w1 g #[s0,s1,s2] t) (hx:Bx w g' #[s0',s1',s2'] t') (hge:w1.heap.size≤g') (hb:Gq w1 w) :
 Calls Tryz.prog 95 #[.slice a n c] w fun e w'=>∃ a' c',e=.returned (.slice a' n c')∧Hid (au w' w.heap.size (.slice a' n c') l)∧Hid (ij w1 w w')∧DC w' g s0 s1 s2∧Hid (Bx w' g' #[s0',s1',s2'] t')∧w1.heap.size≤g'∧DC w' g' s0' s1' s2':=by
 refine(lj a n c l w hl hn hd hb).mono ?_;rintro e w' ⟨a',c',rfl,ho,hp,hdc⟩;have h:=hx.later hp.2 hx.lt;exact⟨a',c',rfl,ho,hp,hdc,h,hge,h.dc⟩
theorem po (a:Option Addr) (n c:Nat) (l:List Pt) (w:World) (hl:PL w1 a n l) (hn:n≤1000000) (hd:Bx w1 g #[s0,s1,s2] t) (hb:Gq w1 w) :
 Calls Tryz.prog 72 #[.slice a n c] w fun e w'=>∃ a' c',e=.returned (.slice a' n c')∧Hid (bg w' w.heap.size (.slice a' n c') l)∧Hid (ij w1 w w')∧DC w' g s0 s1 s2:=by
 refine(kp a n c l w (hl.later hb) hn).mono ?_;rintro e w' ⟨v,rfl,ho,hb'⟩;obtain⟨a',c',hv,_⟩:=aA ho;rw[hl.1] at hv;subst hv;have h2:=hb.trans (hb'.mono hb.size);exact⟨a',c',rfl,ho,⟨h2,hb'⟩,(hd.later h2 hd.lt).dc⟩
theorem kq (a:Option Addr) (n c:Nat) (l:List Pt) (w:World) (hl:PL w1 a n l) (hn:n≤1000000) (hd:Bx w1 g #[s0,s1,s2] t) (hx:Bx w g' #[s0',s1',s2'] t') (hge:w1.heap.size≤g') (hb:Gq w1 w) :
 Calls Tryz.prog 72 #[.slice a n c] w fun e w'=>∃ a' c',e=.returned (.slice a' n c')∧Hid (bg w' w.heap.size (.slice a' n c') l)∧Hid (ij w1 w w')∧DC w' g s0 s1 s2∧Hid (Bx w' g' #[s0',s1',s2'] t')∧w1.heap.size≤g'∧DC w' g' s0' s1' s2':=by
 refine(po a n c l w hl hn hd hb).mono ?_;rintro e w' ⟨a',c',rfl,ho,hp,hdc⟩;have h:=hx.later hp.2 hx.lt;exact⟨a',c',rfl,ho,hp,hdc,h,hge,h.dc⟩
theorem vt (w:World) (p:Pt) (t:TypeId) :
 ∀ j u,(fN [p])[j]?=some u→(w.alloc (.cells #[.int .i64 p.at_,.int .u8 p.d.z0,.int .u8 p.d.z1,.int .u8 p.d.z2,.int .u8 p.d.z3,.int .u8 p.d.z4,.int .u8 p.d.z5,.int .u8 p.d.z6,.int .u8 p.d.z7] t)).cell? ((⟨w.heap.size,0,none⟩:Addr).add j)=some u:=by
 intro j u hj;have hadd:(⟨w.heap.size,0,none⟩:Addr).add j=⟨w.heap.size,j,none⟩:=by unfold Addr.add;split<;>simp_all
 rw[hadd,World.cell?_alloc_new];simpa [fN,Pt.cs] using hj
theorem eA {ops:Array Oper} {rest:List Oper} {o:Oper} {a:Act} {Q:Exit→Act→World→Prop} (hgd:o.guard=none) (s x:Operand)
 (ho:o.op=.call {callee:=.builtin .append,args:=#[s,x],argTypes:=#[98,98]}) (base:Nat) (l:List Pt) (hown:bg w base (a.eval s) l)
 (p:Pt) (hx:a.eval x=.slice (some ⟨w.heap.size,0,none⟩) 1 1) (h63:l.length≤1000000) (hbase:base≤w.heap.size)
 (h:∀ ad c w',bg w' base (.slice (some ad) (l.length+1) c) (l++[p])→w.grownBy w' (a.eval s).ownBlock→wpList Tryz.prog ops Q rest (a.put o.dst (.slice (some ad) (l.length+1) c)) w') :
 wpList Tryz.prog ops Q (o::rest) a (w.alloc (.cells #[.int .i64 p.at_,.int .u8 p.d.z0,.int .u8 p.d.z1,.int .u8 p.d.z2,.int .u8 p.d.z3,.int .u8 p.d.z4,.int .u8 p.d.z5,.int .u8 p.d.z6,.int .u8 p.d.z7] 114)):=by
 obtain⟨i0,hi,hz0,hz1,hz2⟩:=info_parts Tryz.info114;refine wpList_append_own _ hgd s x 98 ho base 114 i0 _ 9 16 Tryz.underlying98 hi hz0 hz1 hz2 rfl (by decide) (a.eval s) l.length (fN l) rfl (World.ownsRow.alloc hown _) ⟨w.heap.size,0,none⟩ 1 1 (fN [p]) hx (by simp[fN,Pt.cs]) (vt w p 114) pF (by unfold maxLen;omega) (by omega) (by simp;omega) ?_;intro v' w' hown' hg _;have hI:bg w' base v' (l++[p]):=by
  unfold bg;rw[Ge,fN,List.flatMap_append];exact hown'
 have hg':w.grownBy w' (a.eval s).ownBlock:=⟨hg.os,hg.tape,hg.output,by have:=hg.size;simp at this;omega,fun k hk hne=>(hg.block k (by simp;omega) hne).trans (Below.heap_alloc w _ k hk)⟩
 rcases hown'.2 with ⟨_,hz⟩|⟨g,cap,cur,rfl,hbg,_⟩
 ·simp at hz
 ·exact h _ _ w' hI hg'
theorem az (h:w.ownsRow base e size v n xs) (p:Addr) (u:Value) (hne:v.ownBlock≠some p.block):(w.setCell p u).ownsRow base e size v n xs:=by
 refine⟨h.1,?_⟩;rcases h.2 with h|⟨g,cap,cur,hv,hb,hh,rest⟩
 ·exact .inl h
 ·exact .inr ⟨g,cap,cur,hv,hb,(Below.heap_setCell w p u g (fun e=>hne (by rw[hv];exact congrArg some e))).trans hh,rest⟩
theorem aX (h:w.ownsRow base e size v n xs) (hb:Bx w g cs t) (hne:e≠t):v.ownBlock≠some g:=by
 rcases h.2 with ⟨hv,_⟩|⟨g',cap,cur,hv,_,hh,_⟩
 ·rw[hv]
  simp[Value.ownBlock]
 ·rw[hv]
  intro e';have e2:g'=g:=Gg e';subst e2;rw[hb] at hh;cases hh
  exact hne rfl
def Made (w1 wf:World) (gn:Nat) (v1 v2 s2:Value) (ls:List B8) (ps:List Pt):Prop :=
 Bx wf gn #[v1,v2,s2] 130∧au wf w1.heap.size v1 ls∧bg wf w1.heap.size v2 ps∧Gq w1 wf∧w1.heap.size≤gn∧v1.ownBlock≠some gn∧v2.ownBlock≠some gn∧∀ g,v1.ownBlock=some g→v2.ownBlock≠some g
theorem sj {gn:Nat} {ls:List B8} {ps:List Pt} (hx:Bx wX gn #[z0,z1,z2] 130) (h1:au wX w1.heap.size v1 ls) (h2:bg wX w1.heap.size v2 ps) (hb:Gq w1 wX) (hge:w1.heap.size≤gn)
 (n1:v1.ownBlock≠some gn) (n2:v2.ownBlock≠some gn) (d:∀ g,v1.ownBlock=some g→v2.ownBlock≠some g) :
 Made w1 (((wX.setCell ⟨gn,0,none⟩ v1).setCell ⟨gn,1,none⟩ v2).setCell ⟨gn,2,none⟩ s2) gn v1 v2 s2 ls ps :=
 ⟨((hx.set 0 v1).set 1 v2).set 2 s2,az (az (az h1 _ _ n1) _ _ n1) _ _ n1,az (az (az h2 _ _ n2) _ _ n2) _ _ n2,
  ((hb.setCell (p:=⟨gn,0,none⟩) hge v1).setCell (p:=⟨gn,1,none⟩) hge v2).setCell (p:=⟨gn,2,none⟩) hge s2,hge,n1,n2,d⟩
theorem Fy {ls:List B8} {ps:List Pt} (hW:w1.heap.size≤W.heap.size) (hoB:au wB W.heap.size v1 ls) (hoP:bg wX wB.heap.size v2 ps) (hbP:ij w1 wB wX) (hbB:ij w1 W wB) :
 Made w1 (wX.alloc (.cells #[v1,v2,s2] 130)) wX.heap.size v1 v2 s2 ls ps:=by
 have b1:=World.ownsRow.lt hoB;have b2:=World.ownsRow.lt hoP;have e1:=hbP.2.size;have e2:=hbB.1.size;refine⟨Bx.new _ _ _,World.ownsRow.alloc (bm (World.ownsRow.mono hoB hW) hbP.2) _,World.ownsRow.alloc (World.ownsRow.mono hoP e2) _,hbP.1.alloc hbP.1.size _,hbP.1.size,fun e=>?_,fun e=>?_,fun g e1 e2=>?_⟩
 ·have:=(b1 _ e).2;omega
 ·have:=(b2 _ e).2;omega
 ·have:=(b1 _ e1).2;have:=(b2 _ e2).1;omega
theorem Fz {ls:List B8} {ps:List Pt} (hW:w1.heap.size≤W.heap.size) (hoB:au wB W.heap.size v1 ls) (hbB:ij w1 W wB) (hoP:bg wX (wB.alloc (.cells #[z0,z1,z2] 130)).heap.size v2 ps) (hbP:ij w1 (wB.alloc (.cells #[z0,z1,z2] 130)) wX) :
 Made w1 (((wX.setCell ⟨wB.heap.size,0,none⟩ v1).setCell ⟨wB.heap.size,1,none⟩ v2).setCell ⟨wB.heap.size,2,none⟩ s2) wB.heap.size v1 v2 s2 ls ps:=by
 have b1:=World.ownsRow.lt hoB;have b2:=World.ownsRow.lt hoP;have e1:=hbP.2.size;have e2:=hbB.1.size;simp only[World.size_alloc] at b2 e1;refine sj ((Bx.new wB #[z0,z1,z2] 130).later hbP.2 (by simp)) (bm (World.ownsRow.alloc (World.ownsRow.mono hoB hW) _) hbP.2) (World.ownsRow.mono hoP (by simp;omega)) hbP.1 e2 (fun e=>?_) (fun e=>?_) (fun g e1 e2=>?_)
 ·have:=(b1 _ e).2;omega
 ·have:=(b2 _ e).1;omega
 ·have:=(b1 _ e1).2;have:=(b2 _ e2).1;omega
theorem FC {ls:List B8} {ps:List Pt} (hoB:au wB (w1.alloc (.cells #[z0,z1,z2] 130)).drew.heap.size v1 ls) (hbB:ij w1 (w1.alloc (.cells #[z0,z1,z2] 130)).drew wB) (hoP:bg wX wB.heap.size v2 ps) (hbP:ij w1 wB wX) :
 Made w1 (((wX.setCell ⟨w1.heap.size,0,none⟩ v1).setCell ⟨w1.heap.size,1,none⟩ v2).setCell ⟨w1.heap.size,2,none⟩ s2) w1.heap.size v1 v2 s2 ls ps:=by
 have b1:=World.ownsRow.lt hoB;have b2:=World.ownsRow.lt hoP;have e1:=hbP.2.size;have e2:=hbB.2.size;have e3:(w1.alloc (.cells #[z0,z1,z2] 130)).drew.heap.size=w1.heap.size+1:=World.size_alloc _ _;rw[e3] at b1 e2;refine sj (((Bx.dj w1 #[z0,z1,z2] 130).later hbB.2 (by rw[e3];omega)).later hbP.2 (by omega)) (bm (World.ownsRow.mono hoB (by rw[e3];omega)) hbP.2) (World.ownsRow.mono hoP (by omega)) hbP.1 (Gi _) (fun e=>?_) (fun e=>?_) (fun g e1 e2=>?_)
 ·have:=(b1 _ e).1;omega
 ·have:=(b2 _ e).1;omega
 ·have:=(b1 _ e1).2;have:=(b2 _ e2).1;omega
theorem zZ {α:Type} (L:List α) (o:Nat) (a0 a1 a2 a3 a4 a5 a6 a7:α) (h:o+8≤L.length) :
 (((((((L.set o a0).set (o+1) a1).set (o+2) a2).set (o+3) a3).set (o+4) a4).set (o+5) a5).set (o+6) a6).set (o+7) a7=L.take o++[a0,a1,a2,a3,a4,a5,a6,a7]++L.drop (o+8):=by
 have hL:L=L.take o++((L.drop o).take 8++L.drop (o+8)):=by
  rw[show L.drop (o+8)=(L.drop o).drop 8 by rw[List.drop_drop],List.take_append_drop,List.take_append_drop]
 have hl:(L.take o).length=o:=by rw[Gk];omega
 have h8:((L.drop o).take 8).length=8:=by rw[Gk,List.length_drop];omega
 generalize L.take o=A at *;generalize (L.drop o).take 8=B at *;generalize L.drop (o+8)=C at *
 match B,h8 with
 | [b0, b1, b2, b3, b4, b5, b6, b7], _ =>
  subst hL;subst hl;have e:=fun(X:List α) (i:Nat) (v:α)=>List.set_append_right (s:=A) (t:=X) (A.length+i) v (by omega)
  have e0:=fun(X:List α) (v:α)=>List.set_append_right (s:=A) (t:=X) A.length v (Gi _)
  simp only[Nat.add_sub_cancel_left,Nat.sub_self] at e e0;simp only[e,e0,List.cons_append,List.nil_append,List.set_cons_zero,List.set_cons_succ,List.append_assoc]
def aR (w:World) (g o:Nat) (x:B8):World :=
 (((((((w.setCell ⟨g,o,none⟩ (.int .u8 x.z0)).setCell ⟨g,o+1,none⟩ (.int .u8 x.z1)).setCell ⟨g,o+2,none⟩ (.int .u8 x.z2)).setCell ⟨g,o+3,none⟩ (.int .u8 x.z3)).setCell ⟨g,o+4,none⟩ (.int .u8 x.z4)).setCell ⟨g,o+5,none⟩ (.int .u8 x.z5)).setCell ⟨g,o+6,none⟩ (.int .u8 x.z6)).setCell ⟨g,o+7,none⟩ (.int .u8 x.z7)
theorem au.put {cap:Nat} {l:List B8} (h:au w base (.slice (some ⟨g,0,none⟩) n cap) l) (j:Nat) (hj:j<l.length) (x:B8):au (aR w g (j*8) x) base (.slice (some ⟨g,0,none⟩) n cap) (l.set j x):=by
 rcases h.2 with ⟨hv,_⟩|⟨g',cap',cur,hv,hb,hh,hle,hmx,hcs,htk⟩
 ·cases hv
 ·simp only[Value.slice.injEq,Option.some.injEq,Addr.mk.injEq,and_true] at hv
  obtain⟨rfl,hn,rfl⟩:=hv;have hbx:Bx w g cur 33:=hh;have h8:=(((((((hbx.set (j*8) (.int .u8 x.z0)).set (j*8+1) (.int .u8 x.z1)).set (j*8+2) (.int .u8 x.z2)).set (j*8+3) (.int .u8 x.z3)).set (j*8+4) (.int .u8 x.z4)).set (j*8+5) (.int .u8 x.z5)).set (j*8+6) (.int .u8 x.z6)).set (j*8+7) (.int .u8 x.z7);refine⟨by rw[cw,List.length_set],.inr ⟨g,cap,_,by rw[List.length_set,hn],hb,h8,by rw[List.length_set];omega,hmx,by simpa using hcs,?_⟩⟩;have hf:aT (l.set j x)=(aT l).take (j*8)++x.cs++(aT l).drop (j*8+8):=me B8.cs 8 (fun _=>rfl) l j x hj;simp only[Array.toList_setIfInBounds,List.take_set];rw[List.length_set,htk,zZ (aT l) (j*8) _ _ _ _ _ _ _ _ (by rw[cw];omega),hf];rfl
theorem bP (h:Below B w w') (hg:B≤g) (o:Nat) (x:B8):Below B w (aR w' g o x) :=
 (((((((h.setCell (p:=⟨g,o,none⟩) hg _).setCell (p:=⟨g,o+1,none⟩) hg _).setCell (p:=⟨g,o+2,none⟩) hg _).setCell (p:=⟨g,o+3,none⟩) hg _).setCell (p:=⟨g,o+4,none⟩) hg _).setCell (p:=⟨g,o+5,none⟩) hg _).setCell (p:=⟨g,o+6,none⟩) hg _).setCell (p:=⟨g,o+7,none⟩) hg _
theorem oy {o k:Nat} (hk:k≠g) (x:B8):(aR w g o x).heap[k]?=w.heap[k]?:=by
 unfold aR;rw[Below.heap_setCell _ _ _ _ hk,Below.heap_setCell _ _ _ _ hk,Below.heap_setCell _ _ _ _ hk,Below.heap_setCell _ _ _ _ hk,Below.heap_setCell _ _ _ _ hk,Below.heap_setCell _ _ _ _ hk,Below.heap_setCell _ _ _ _ hk,Below.heap_setCell _ _ _ _ hk]
theorem Bx.aR {w:World} {g k:Nat} {cs:Array Value} {t:TypeId} (h:Bx w k cs t) (hk:k≠g) (o:Nat) (x:B8):Bx (aR w g o x) k cs t:=(oy hk x).trans h
theorem au.form {c:Nat} {a:Option Addr} {l:List B8} (h:au w base (.slice a n c) l) (hn:0<n):∃ g,a=some ⟨g,0,none⟩∧base≤g∧g<w.heap.size∧l.length=n∧∀ o,w.frozen? ⟨g,o,none⟩=false:=by
 rcases h.2 with ⟨hv,_⟩|⟨g,cap,cur,hv,hb,hh,_⟩
 ·simp only[Value.slice.injEq] at hv
  omega
 ·simp only[Value.slice.injEq] at hv
  obtain⟨rfl,rfl,rfl⟩:=hv;exact⟨g,rfl,hb,(Array.getElem?_eq_some_iff.1 hh).1,rfl,fun o=>(show Bx w g cur 33 from hh).frozen o⟩
theorem au.at_ {w:World} {base g n c:Nat} {l:List B8} (h:au w base (.slice (some ⟨g,0,none⟩) n c) l) (k:Nat) (hk:k<n) :
 ∃ x:B8,l[k]?=some x∧w.cell? ⟨g,k*8,none⟩=some (.int .u8 x.z0)∧w.cell? ⟨g,k*8+1,none⟩=some (.int .u8 x.z1)∧w.cell? ⟨g,k*8+2,none⟩=some (.int .u8 x.z2) ∧
  w.cell? ⟨g,k*8+3,none⟩=some (.int .u8 x.z3)∧w.cell? ⟨g,k*8+4,none⟩=some (.int .u8 x.z4)∧w.cell? ⟨g,k*8+5,none⟩=some (.int .u8 x.z5) ∧
  w.cell? ⟨g,k*8+6,none⟩=some (.int .u8 x.z6)∧w.cell? ⟨g,k*8+7,none⟩=some (.int .u8 x.z7):=by
 obtain⟨a,c',hv,hb,_⟩:=h.bl;simp only[Value.slice.injEq] at hv;obtain⟨rfl,rfl,rfl⟩:=hv;obtain⟨b,off,x,ha,_,hx,hcs⟩:=hb.at_ k hk;simp only[Option.some.injEq,Addr.mk.injEq,and_true] at ha;obtain⟨rfl,rfl⟩:=ha;simp only[Nat.zero_add] at hcs;exact⟨x,hx,hcs⟩
theorem beA {W w:World} {o:Obj} (h:Hid (W=w.alloc o)):Hid (Gq w W):=by rw[h.o];exact af _ _
theorem bxA {W w:World} {cs:Array Value} {t:TypeId} (h:Hid (W=w.alloc (.cells cs t))):Hid (Bx W w.heap.size cs t):=by rw[h.o];exact Bx.new w _ _
abbrev Gr (w:World) (g:Nat):Prop:=Bx w g #[.int .u8 0,.int .u8 0,.int .u8 0,.int .u8 0,.int .u8 0,.int .u8 0,.int .u8 0,.int .u8 0] 33
abbrev Gs (w:World) (g:Nat) (x:B8):Prop:=Bx w g #[.int .u8 x.z0,.int .u8 x.z1,.int .u8 x.z2,.int .u8 x.z3,.int .u8 x.z4,.int .u8 x.z5,.int .u8 x.z6,.int .u8 x.z7] 33
abbrev Gt (w:World) (g:Nat) (k a f:Int) (x:B8):Prop:=Bx w g #[.int .i64 k,.int .i64 a,.int .i64 f,.int .u8 x.z0,.int .u8 x.z1,.int .u8 x.z2,.int .u8 x.z3,.int .u8 x.z4,.int .u8 x.z5,.int .u8 x.z6,.int .u8 x.z7] 37
end
section
open Go.RowKit
variable {w:World} {g:Nat} {t:TypeId}
structure Pk where
 at_:Int
 kind:Int
 from_:Int
 d:B8
def Pk.cs (p:Pk):List Value:=[.int .i64 p.at_,.int .i64 p.kind,.int .i64 p.from_,.int .u8 p.d.z0,.int .u8 p.d.z1,.int .u8 p.d.z2,.int .u8 p.d.z3,.int .u8 p.d.z4,.int .u8 p.d.z5,.int .u8 p.d.z6,.int .u8 p.d.z7]
def iD (l:List Pk):List Value:=l.flatMap Pk.cs
theorem yj {l:List Pk}:∀ u∈iD l,u.oneCell'=true:=by
 intro u hu;obtain⟨x,_,hx⟩:=List.mem_flatMap.1 hu;simp[Pk.cs] at hx;rcases hx with rfl|rfl|rfl|rfl|rfl|rfl|rfl|rfl|rfl|rfl|rfl<;>rfl
def QL (w:World) (a:Option Addr) (n:Nat) (l:List Pk):Prop:=l.length=n∧cA w a n 11 (iD l)
def cL (w:World) (base:Nat) (v:Value) (l:List Pk):Prop:=w.ownsRow base 244 11 v l.length (iD l)
theorem QL.later {w w':World} {a:Option Addr} {n:Nat} {l:List Pk} (h:QL w a n l) (hb:Gq w w'):QL w' a n l:=⟨h.1,h.2.later hb⟩
theorem cL.nil (w:World) (base:Nat):cL w base (.slice none 0 0) []:=World.ownsRow_nil w base 244 11
theorem cL.ql {base:Nat} {v:Value} {l:List Pk} (h:cL w base v l):∃ a c,v=.slice a l.length c∧QL w a l.length l:=by
 obtain⟨a,c,hv,_,hr,_⟩:=aA h;exact⟨a,c,hv,rfl,hr⟩
theorem QL.at_ {w:World} {a:Option Addr} {n:Nat} {l:List Pk} (h:QL w a n l) (k:Nat) (hk:k<n) :
 ∃ b off,∃ p:Pk,a=some ⟨b,off,none⟩∧b<w.heap.size∧l[k]?=some p∧w.cell? ⟨b,off+k*11,none⟩=some (.int .i64 p.at_)∧w.cell? ⟨b,off+k*11+1,none⟩=some (.int .i64 p.kind)∧w.cell? ⟨b,off+k*11+2,none⟩=some (.int .i64 p.from_) ∧
  w.cell? ⟨b,off+k*11+3,none⟩=some (.int .u8 p.d.z0)∧w.cell? ⟨b,off+k*11+4,none⟩=some (.int .u8 p.d.z1)∧w.cell? ⟨b,off+k*11+5,none⟩=some (.int .u8 p.d.z2)∧w.cell? ⟨b,off+k*11+6,none⟩=some (.int .u8 p.d.z3)∧w.cell? ⟨b,off+k*11+7,none⟩=some (.int .u8 p.d.z4)∧w.cell? ⟨b,off+k*11+8,none⟩=some (.int .u8 p.d.z5)∧w.cell? ⟨b,off+k*11+9,none⟩=some (.int .u8 p.d.z6)∧w.cell? ⟨b,off+k*11+10,none⟩=some (.int .u8 p.d.z7):=by
 obtain⟨h0,h1,h2,h4⟩:=h;obtain⟨b,off,ha,hlt,hc⟩:=h4 (by omega);have hx:l[k]?=some l[k]:=F0 (by omega);have e:=fun j (hj:j<11)=>cQ Pk.cs 11 (fun _=>rfl) l k j _ hx hj
 refine⟨b,off,l[k],ha,hlt,hx,?_,?_,?_,?_,?_,?_,?_,?_,?_,?_,?_⟩
 ·exact hc (k*11) _ (e 0 (by omega))
 ·exact hc (k*11+1) _ (e 1 (by omega))
 ·exact hc (k*11+2) _ (e 2 (by omega))
 ·exact hc (k*11+3) _ (e 3 (by omega))
 ·exact hc (k*11+4) _ (e 4 (by omega))
 ·exact hc (k*11+5) _ (e 5 (by omega))
 ·exact hc (k*11+6) _ (e 6 (by omega))
 ·exact hc (k*11+7) _ (e 7 (by omega))
 ·exact hc (k*11+8) _ (e 8 (by omega))
 ·exact hc (k*11+9) _ (e 9 (by omega))
 ·exact hc (k*11+10) _ (e 10 (by omega))
theorem Tryz.info244:(Tryz.prog.info? 244).map (fun i=>(i.zero,i.size,i.bytes))=some (some (.agg #[.int .i64 0,.int .i64 0,.int .i64 0,.int .u8 0,.int .u8 0,.int .u8 0,.int .u8 0,.int .u8 0,.int .u8 0,.int .u8 0,.int .u8 0]),11,32):=by kernel_rfl
theorem vu (w:World) (p:Pk) (t:TypeId) :
 ∀ j u,(iD [p])[j]?=some u→(w.alloc (.cells #[.int .i64 p.at_,.int .i64 p.kind,.int .i64 p.from_,.int .u8 p.d.z0,.int .u8 p.d.z1,.int .u8 p.d.z2,.int .u8 p.d.z3,.int .u8 p.d.z4,.int .u8 p.d.z5,.int .u8 p.d.z6,.int .u8 p.d.z7] t)).cell? ((⟨w.heap.size,0,none⟩:Addr).add j)=some u:=by
 intro j u hj;have hadd:(⟨w.heap.size,0,none⟩:Addr).add j=⟨w.heap.size,j,none⟩:=by unfold Addr.add;split<;>simp_all
 rw[hadd,World.cell?_alloc_new];simpa [iD,Pk.cs] using hj
theorem eV {ops:Array Oper} {rest:List Oper} {o:Oper} {a:Act} {Q:Exit→Act→World→Prop} (hgd:o.guard=none) (s x:Operand)
 (ho:o.op=.call {callee:=.builtin .append,args:=#[s,x],argTypes:=#[211,211]}) (base:Nat) (l:List Pk) (hown:cL w base (a.eval s) l)
 (p:Pk) (hx:a.eval x=.slice (some ⟨w.heap.size,0,none⟩) 1 1) (h63:l.length≤1000000) (hbase:base≤w.heap.size)
 (h:∀ ad c w',cL w' base (.slice (some ad) (l.length+1) c) (l++[p])→w.grownBy w' (a.eval s).ownBlock→wpList Tryz.prog ops Q rest (a.put o.dst (.slice (some ad) (l.length+1) c)) w') :
 wpList Tryz.prog ops Q (o::rest) a (w.alloc (.cells #[.int .i64 p.at_,.int .i64 p.kind,.int .i64 p.from_,.int .u8 p.d.z0,.int .u8 p.d.z1,.int .u8 p.d.z2,.int .u8 p.d.z3,.int .u8 p.d.z4,.int .u8 p.d.z5,.int .u8 p.d.z6,.int .u8 p.d.z7] 244)):=by
 obtain⟨i0,hi,hz0,hz1,hz2⟩:=info_parts Tryz.info244;refine wpList_append_own _ hgd s x 211 ho base 244 i0 _ 11 32 Tryz.underlying211 hi hz0 hz1 hz2 rfl (by decide) (a.eval s) l.length (iD l) rfl (World.ownsRow.alloc hown _) ⟨w.heap.size,0,none⟩ 1 1 (iD [p]) hx (by simp[iD,Pk.cs]) (vu w p 244) yj (by unfold maxLen;omega) (by omega) (by simp;omega) ?_;intro v' w' hown' hg _;have hI:cL w' base v' (l++[p]):=by
  unfold cL;rw[Ge,iD,List.flatMap_append];exact hown'
 have hg':w.grownBy w' (a.eval s).ownBlock:=⟨hg.os,hg.tape,hg.output,by have:=hg.size;simp at this;omega,fun k hk hne=>(hg.block k (by simp;omega) hne).trans (Below.heap_alloc w _ k hk)⟩
 rcases hown'.2 with ⟨_,hz⟩|⟨g,cap,cur,rfl,hbg,_⟩
 ·simp at hz
 ·exact h _ _ w' hI hg'
theorem tF {α β:Type} {φ:α→β} {l:List α} {a b c d:β} (h:l.map φ=[a,b,c,d]):∃ x y z u,l=[x,y,z,u]∧φ x=a∧φ y=b∧φ z=c∧φ u=d:=by
 obtain⟨x,l1,rfl,h1,h2⟩:=List.map_eq_cons_iff.1 h;obtain⟨y,l2,rfl,h3,h4⟩:=List.map_eq_cons_iff.1 h2;obtain⟨z,l3,rfl,h5,h6⟩:=List.map_eq_cons_iff.1 h4;obtain⟨u,l4,rfl,h7,h8⟩:=List.map_eq_cons_iff.1 h6;rw[List.map_eq_nil_iff] at h8;subst h8;exact⟨x,y,z,u,rfl,h1,h3,h5,h7⟩
def Pk.arr (p:Pk):Array Value:=#[.int .i64 p.at_,.int .i64 p.kind,.int .i64 p.from_,.int .u8 p.d.z0,.int .u8 p.d.z1,.int .u8 p.d.z2,.int .u8 p.d.z3,.int .u8 p.d.z4,.int .u8 p.d.z5,.int .u8 p.d.z6,.int .u8 p.d.z7]
def cr (w:World) (g:Nat) (p:Pk):World:=((((((((((w.setCell ⟨g,0,none⟩ (.int .i64 p.at_)).setCell ⟨g,1,none⟩ (.int .i64 p.kind)).setCell ⟨g,2,none⟩ (.int .i64 p.from_)).setCell ⟨g,3,none⟩ (.int .u8 p.d.z0)).setCell ⟨g,4,none⟩ (.int .u8 p.d.z1)).setCell ⟨g,5,none⟩ (.int .u8 p.d.z2)).setCell ⟨g,6,none⟩ (.int .u8 p.d.z3)).setCell ⟨g,7,none⟩ (.int .u8 p.d.z4)).setCell ⟨g,8,none⟩ (.int .u8 p.d.z5)).setCell ⟨g,9,none⟩ (.int .u8 p.d.z6)).setCell ⟨g,10,none⟩ (.int .u8 p.d.z7)
theorem eJ {q:Pk} (h:Bx w g q.arr t) (p:Pk):Bx (cr w g p) g p.arr t:=by
 have h8:=(((((((((((h.set 0 (.int .i64 p.at_)).set 1 (.int .i64 p.kind)).set 2 (.int .i64 p.from_)).set 3 (.int .u8 p.d.z0)).set 4 (.int .u8 p.d.z1)).set 5 (.int .u8 p.d.z2)).set 6 (.int .u8 p.d.z3)).set 7 (.int .u8 p.d.z4)).set 8 (.int .u8 p.d.z5)).set 9 (.int .u8 p.d.z6)).set 10 (.int .u8 p.d.z7))
 have e:(((((((((((q.arr.setIfInBounds 0 (.int .i64 p.at_)).setIfInBounds 1 (.int .i64 p.kind)).setIfInBounds 2 (.int .i64 p.from_)).setIfInBounds 3 (.int .u8 p.d.z0)).setIfInBounds 4 (.int .u8 p.d.z1)).setIfInBounds 5 (.int .u8 p.d.z2)).setIfInBounds 6 (.int .u8 p.d.z3)).setIfInBounds 7 (.int .u8 p.d.z4)).setIfInBounds 8 (.int .u8 p.d.z5)).setIfInBounds 9 (.int .u8 p.d.z6)).setIfInBounds 10 (.int .u8 p.d.z7))=p.arr:=by simp[Pk.arr]
 rw[e] at h8;exact h8
theorem bh {B:Nat} {w':World} (h:Below B w w') (hg:B≤g) (p:Pk):Below B w (cr w' g p):=(((((((((((h.setCell (p:=⟨g,0,none⟩) hg _).setCell (p:=⟨g,1,none⟩) hg _).setCell (p:=⟨g,2,none⟩) hg _).setCell (p:=⟨g,3,none⟩) hg _).setCell (p:=⟨g,4,none⟩) hg _).setCell (p:=⟨g,5,none⟩) hg _).setCell (p:=⟨g,6,none⟩) hg _).setCell (p:=⟨g,7,none⟩) hg _).setCell (p:=⟨g,8,none⟩) hg _).setCell (p:=⟨g,9,none⟩) hg _).setCell (p:=⟨g,10,none⟩) hg _)
theorem Bx.dS {p:Pk} (h:Bx w g p.arr t):w.cell? ⟨g,0,none⟩=some (.int .i64 p.at_)∧w.cell? ⟨g,1,none⟩=some (.int .i64 p.kind)∧w.cell? ⟨g,2,none⟩=some (.int .i64 p.from_)∧w.cell? ⟨g,3,none⟩=some (.int .u8 p.d.z0)∧w.cell? ⟨g,4,none⟩=some (.int .u8 p.d.z1)∧w.cell? ⟨g,5,none⟩=some (.int .u8 p.d.z2)∧w.cell? ⟨g,6,none⟩=some (.int .u8 p.d.z3)∧w.cell? ⟨g,7,none⟩=some (.int .u8 p.d.z4)∧w.cell? ⟨g,8,none⟩=some (.int .u8 p.d.z5)∧w.cell? ⟨g,9,none⟩=some (.int .u8 p.d.z6)∧w.cell? ⟨g,10,none⟩=some (.int .u8 p.d.z7):=⟨h.cell 0,h.cell 1,h.cell 2,h.cell 3,h.cell 4,h.cell 5,h.cell 6,h.cell 7,h.cell 8,h.cell 9,h.cell 10⟩
end
section
open Go.RowKit
variable {k:Nat}
instance:DecidableEq B8:=fun x y=>decidable_of_iff _ (B8.eq_list x y)
namespace Mx
def dU (l:List B8) (b:B8):Int:=if b∈l then (l.idxOf b:Int) else -1
def bT (l:List B8):Int:=if 8<l.length then 2 else if l.Nodup then 0 else 3
theorem pE {l:List B8} {b:B8} (h:l[k]?=some b) (hn:∀ j:Nat,j<k→l[j]?≠some b):dU l b=k:=by
 have hm:b∈l:=Gp h;rw[dU,if_pos hm];congr 1
 have hk:k<l.length:=(Gh.1 h).1;have h1:l.idxOf b<l.length:=List.idxOf_lt_length_of_mem hm;have h2:l[l.idxOf b]?=some b:=by rw[F0 h1,List.getElem_idxOf h1]
 have h3:¬l.idxOf b<k:=fun h=>hn _ h h2
 have h4:¬k<l.idxOf b:=fun h5=>by
  have h6:=List.not_of_lt_findIdx h5;have h7:=(Gh.1 h).2;simp[h7] at h6
 omega
theorem tA {l:List B8} {b:B8} (hn:∀ j:Nat,j<l.length→l[j]?≠some b):dU l b=-1:=by
 rw[dU,if_neg];intro hm;obtain⟨i,hi,e⟩:=List.getElem_of_mem hm;exact hn i hi (by rw[F0 hi,e])
theorem kU (l:List B8) (b:B8):decide (0≤dU l b)=decide (b∈l):=by
 by_cases h:b∈l
 ·rw[dU,if_pos h]
  simp[h]
 ·rw[dU,if_neg h]
  simp[h]
theorem wy {l:List B8} {b:B8} (h:l[k]?=some b) (hn:(l.take k).Nodup) (hb:b ∉ l.take k):(l.take (k+1)).Nodup:=by
 rw[aN _ _ _ h,List.nodup_append];refine⟨hn,by simp,fun x hx y hy=>?_⟩;rintro rfl;simp at hy;subst hy;exact hb hx
theorem yP {l:List B8} {b:B8} (h:l[k]?=some b) (hb:b∈l.take k):¬l.Nodup:=by
 intro hn;have h1:(l.take (k+1)).Nodup:=hn.sublist (List.take_sublist _ _);rw[aN _ _ _ h,List.nodup_append] at h1;exact h1.2.2 b hb b (by simp) rfl
theorem yt {l:List B8} (h:8<l.length):bT l=2:=by rw[bT,if_pos h]
theorem vS {l:List B8} {b:B8} (hl:¬8<l.length) (h:l[k]?=some b) (hb:b∈l.take k):bT l=3:=by rw[bT,if_neg hl,if_neg (yP h hb)]
theorem yr {l:List B8} (hl:¬8<l.length) (hk:l.length≤k) (h:(l.take k).Nodup):bT l=0:=by
 rw[Gj hk] at h;rw[bT,if_neg hl,if_pos h]
end Mx
theorem Bx.drewN {w:World} {g:Nat} {cs:Array Value} {t:TypeId} (h:Bx w g cs t) (n:Nat):Bx (w.drewN n) g cs t:=h
theorem BL.take {w:World} {a:Option Addr} {n:Nat} {l:List B8} (h:BL w a n l) (k:Nat) (hk:k≤n):BL w a k (l.take k):=by
 have hl:(l.take k).length=k:=by rw[Gk,h.1];omega
 refine⟨hl,by rw[cw,hl],by have:=h.2.2.1;omega,fun hp=>?_⟩;obtain⟨b,off,ha,hb,hc⟩:=h.2.2.2 (by omega);refine⟨b,off,ha,hb,fun j u hj=>hc j u ?_⟩;have e:aT l=aT (l.take k)++aT (l.drop k):=by unfold aT;rw[←List.flatMap_append,List.take_append_drop]
 rw[e,Gm (Gh.1 hj).1];exact hj
theorem pM (a:Option Addr) (n c:Nat) (l:List B8) (x:B8) (w:World) (hl:BL w a n l) :
 Calls Tryz.prog 164 #[.slice a n c,.agg #[.int .u8 x.z0,.int .u8 x.z1,.int .u8 x.z2,.int .u8 x.z3,.int .u8 x.z4,.int .u8 x.z5,.int .u8 x.z6,.int .u8 x.z7]] w fun e w'=>e=.returned (.int .i64 (Mx.dU l x))∧Gq w w':=by
 have hlen:n≤maxLen:=hl.2.2.1;unfold maxLen at hlen;have HL:=aa hl;clear hl;go_enter Tryz.func164,Tryz.ntmps164;go_wp2
 go_loopw [8] (fun i wr=>∃ k:Nat,k≤n∧i=.int .i64 k∧Hid (∀ j:Nat,j<k→l[j]?≠some x)∧Hid (Gq w wr∧Gs wr w.heap.size x)) (fun i _=>n-(intOf i).toNat)
 case atStart=>exact⟨0,by omega,rfl,fun j hj=>absurd hj (by omega),af _ _,Bx.new _ _ _⟩
 case round =>
  obtain⟨k,hk,rfl,hE,hF⟩:=hrel;by_cases hlt:k<n
  ·obtain⟨b,off,y,rfl,hb,hy,e0,e1,e2,e3,e4,e5,e6,e7⟩:=(HL.o.later hF.o.1).at_ k hlt
   obtain⟨f0,f1,f2,f3,f4,f5,f6,f7⟩:=hF.o.2.eight;have HY:=aa hy;clear hy;have heq:=eZ x.z0 x.z1 x.z2 x.z3 x.z4 x.z5 x.z6 x.z7 y.z0 y.z1 y.z2 y.z3 y.z4 y.z5 y.z6 y.z7;by_cases hcc:[x.z0,x.z1,x.z2,x.z3,x.z4,x.z5,x.z6,x.z7]=[y.z0,y.z1,y.z2,y.z3,y.z4,y.z5,y.z6,y.z7]
   ·have HC:=aa ((B8.eq_list x y).1 hcc)
    rw[decide_eq_true hcc] at heq;clear hcc;go_wp2_with fail;go_quiet (fail)
    go_wp2
    go_ret;exact⟨by rw[Mx.pE (k:=k) (by rw[HY.o,HC.o]) hE.o]<;>rfl,below_drewN hF.o.1 _⟩
   ·have HC:=aa (fun e=>hcc ((B8.eq_list x y).2 e))
    rw[decide_eq_false hcc] at heq;clear hcc;go_wp2_with fail;go_quiet (fail)
    go_wp2
    go_roundw
    case rel =>
     refine⟨k+1,by omega,by go_num,fun j hj e=>?_,below_drewN hF.o.1 _,hF.o.2.drewN _⟩;rcases Nat.lt_succ_iff_lt_or_eq.1 hj with h|h
     ·exact hE.o j h e
     ·subst h
      rw[HY.o] at e;exact HC.o (Gg e).symm
    case measure=>simp[intOf];omega
  ·go_wp2
   go_ret;exact⟨by rw[Mx.tA (fun j hj=>hE.o j (by have:=HL.o.1;omega))]<;>rfl,hF.o.1⟩
theorem ll (a:Option Addr) (n c:Nat) (l:List B8) (x:B8) (w:World) (hl:BL w a n l) :
 Calls Tryz.prog 156 #[.slice a n c,.agg #[.int .u8 x.z0,.int .u8 x.z1,.int .u8 x.z2,.int .u8 x.z3,.int .u8 x.z4,.int .u8 x.z5,.int .u8 x.z6,.int .u8 x.z7]] w fun e w'=>e=.returned (.bool (decide (x∈l)))∧Gq w w':=by
 have HL:=aa hl;clear hl;go_enter Tryz.func156,Tryz.ntmps156;go_wp2_with fail;refine(pM a n c l x _ (HL.o.later (af _ _))).mono ?_;rintro e w1 ⟨rfl,hb⟩;have HB:=aa hb;clear hb;obtain⟨r,hr⟩:∃ r:Int,Hid (r=Mx.dU l x):=⟨_,rfl⟩
 rw[←hr.o];go_wp2
 go_ret;refine⟨?_,(af _ _).trans (HB.o.mono (by simp))⟩;rw[←Mx.kU,←hr.o];try rfl
end
section
open Go.RowKit
theorem kl (a:Option Addr) (n c:Nat) (l:List B8) (w:World) (hl:BL w a n l) (hc:n≤c) :
 Calls Tryz.prog 137 #[.slice a n c] w fun e w'=>e=.returned (bt (Mx.bT l))∧Gq w w':=by
 have hlen:n≤maxLen:=hl.2.2.1;unfold maxLen at hlen;have HL:=aa hl;have HN:=aa hl.1;clear hl;by_cases h8:(8:Int)<n
 ·go_enter Tryz.func137,Tryz.ntmps137
  go_wp2
  go_ret;exact⟨by rw[Mx.yt (by rw[HN.o];omega)]<;>rfl,Below.refl _ _⟩
 ·have HN8:=aa (show ¬8<l.length by rw[HN.o];omega)
  go_enter Tryz.func137,Tryz.ntmps137;go_wp2
  go_loopw [11] (fun i wr=>∃ k:Nat,k≤n∧i=.int .i64 k∧Hid ((l.take k).Nodup)∧Hid (Gq w wr)) (fun i _=>n-(intOf i).toNat)
  case atStart=>exact⟨0,by omega,rfl,by unfold Hid;simp,Below.refl _ _⟩
  case round =>
   obtain⟨k,hk,rfl,hE,hF⟩:=hrel;by_cases hlt:k<n
   ·obtain⟨b,off,y,rfl,hb,hy,e0,e1,e2,e3,e4,e5,e6,e7⟩:=(HL.o.later hF.o).at_ k hlt
    have HY:=aa hy;clear hy;have hkc:(k:Int)≤c:=by omega
    obtain⟨w1,hw1⟩:∃ w1:World,Hid (w1=wr.alloc (.cells #[.int .u8 y.z0,.int .u8 y.z1,.int .u8 y.z2,.int .u8 y.z3,.int .u8 y.z4,.int .u8 y.z5,.int .u8 y.z6,.int .u8 y.z7] 33)):=⟨_,rfl⟩
    have B1:=aa (show Gq w w1 by rw[hw1.o];exact hF.o.alloc hF.o.size _);have Y1:=aa (show Gs w1 wr.heap.size y by rw[hw1.o];exact Bx.new _ _ _);have HT1:=aa (show BL w1 (some ⟨b,off,none⟩) k (l.take k) from(HL.o.later B1.o).take k (by omega));go_wp2_with fail;rw[←hw1.o];clear e0 e1 e2 e3 e4 e5 e6 e7;obtain⟨f0,f1,f2,f3,f4,f5,f6,f7⟩:=Y1.o.eight;by_cases hm:y∈l.take k
    ·have HD:=aa (decide_eq_true hm)
     have HT:=aa hm;clear hm;go_region_with (go_at_call 156;refine(ll (some ⟨b,off,none⟩) k c (l.take k) y _ ?hbl).mono ?_;(case hbl=>first|exact HT1.o|exact HT1.o.later (Below.refl _ _).drew);rintro e w2 ⟨rfl,hb2⟩;rw[HD.o])
     all_goals
      have HB:=aa (B1.o.drew.trans (hb2.mono B1.o.size));clear hb2;go_wp2
      go_ret;exact⟨by rw[Mx.vS HN8.o HY.o HT.o]<;>rfl,HB.o⟩
    ·have HD:=aa (decide_eq_false hm)
     have HT:=aa hm;clear hm;go_region_with (go_at_call 156;refine(ll (some ⟨b,off,none⟩) k c (l.take k) y _ ?hbl).mono ?_;(case hbl=>first|exact HT1.o|exact HT1.o.later (Below.refl _ _).drew);rintro e w2 ⟨rfl,hb2⟩;rw[HD.o])
     all_goals
      have HB:=aa (B1.o.drew.trans (hb2.mono B1.o.size));clear hb2;go_wp2
      go_roundw
      case rel=>exact⟨k+1,by omega,by go_num,Mx.wy HY.o hE.o HT.o,HB⟩
      case measure=>simp[intOf];omega
   ·go_wp2
    go_ret;exact⟨by rw[Mx.yr HN8.o (k:=k) (by rw[HN.o];omega) hE.o]<;>rfl,hF.o⟩
end
section
open Go.RowKit
variable {n:Int} {k:Nat}
namespace Mx
def dP:Pt:=⟨0,zB⟩
def ct (ps:List Pt):Nat→Int
 | 0 => 0
 | k + 1 => (ps.getD k dP).at_ + 1
def eD (n:Int) (ps:List Pt) (k:Nat):Bool:=decide (ct ps k≤(ps.getD k dP).at_) && decide ((ps.getD k dP).at_<n)
def bB (n:Int) (ps:List Pt):Bool:=(List.range ps.length).all (eD n ps)
theorem lO {ps:List Pt} (hk:k<ps.length) (h:eD n ps k=false):bB n ps=false:=by
 unfold bB;rw[List.all_eq_false];exact⟨k,List.mem_range.2 hk,by rw[h];simp⟩
theorem jy {ps:List Pt} (h:∀ k,k<ps.length→eD n ps k=true):bB n ps=true:=by
 unfold bB;rw[List.all_eq_true];exact fun k hk=>h k (List.mem_range.1 hk)
theorem kL {ps:List Pt} (h:bB n ps=true) {p:Pt} (hp:ps[k]?=some p):ct ps k≤p.at_∧p.at_<n:=by
 unfold bB at h;rw[List.all_eq_true] at h;have h1:=h k (List.mem_range.2 (Gh.1 hp).1);unfold eD at h1;rw[Ga,hp] at h1;simpa using h1
def j6 (n:Int) (ps:List Pt) (k:Nat):Prop:=∀ j,j<k→eD n ps j=true
theorem jS {ps:List Pt} (h:j6 n ps k):0≤ct ps k:=by
 induction k with
 | zero => exact Int.le_refl _
 | succ k ih =>
  have h1:=h k (by omega);have h2:=ih (fun j hj=>h j (by omega));unfold eD at h1;simp only[Bool.and_eq_true,decide_eq_true_eq] at h1;show 0≤(ps.getD k dP).at_+1
  omega
theorem mq {ps:List Pt} (h:j6 n ps k) (hg:eD n ps k=true):j6 n ps (k+1):=by
 intro j hj;rcases Nat.lt_succ_iff_lt_or_eq.1 hj with h1|h1
 ·exact h j h1
 ·subst h1
  exact hg
theorem xl {ps:List Pt} (h:bB n ps=true):j6 n ps k∨ps.length≤k:=by
 by_cases hk:k≤ps.length
 ·left
  intro j hj;unfold bB at h;rw[List.all_eq_true] at h;exact h j (List.mem_range.2 (by omega))
 ·right
  omega
end Mx
end
section
open Go.RowKit
variable {k n num:Int} {i:Nat}
structure Ep where
 num:Int
 aI:List Pt
structure Bu where
 num:Int
 op:List Pt
 se:List Ep
 be:Bool
namespace Mx
def Rk:Int→List Pt→Prop
 | _, [] => True
 | k, p :: l => k ≤ p.at_ ∧ p.at_ < 32 ∧ Rk (p.at_ + 1) l
def lk:List Pt→Nat→Option B8
 | [], _ => none
 | p :: l, i => if p.at_ = (i : Int) then some p.d else lk l i
def cX:List Pt→Pt→List Pt
 | [], p => [p]
 | q :: l, p => if q.at_ < p.at_ then q :: cX l p else if q.at_ = p.at_ then p :: l else p :: q :: l
def dD (fs:List (Option B8)) (ps:List Pt):List (Option B8):=ps.foldl (fun fs p=>fs.set p.at_.toNat (some p.d)) fs
def aQ:Nat→List (Option B8)→List Pt
 | _, [] => []
 | k, none :: fs => aQ (k + 1) fs
 | k, some d :: fs => ⟨(k : Int), d⟩ :: aQ (k + 1) fs
def toL (k m:Nat) (ps:List Pt):List (Option B8):=(List.range' k m).map (lk ps)
theorem ob (k:Nat) (l m:List (Option B8)):aQ k (l++m)=aQ k l++aQ (k+l.length) m:=by
 induction l generalizing k with
 | nil => simp [aQ]
 | cons o l ih =>
  cases o with
  | none =>
   rw[List.cons_append,aQ,aQ,ih,List.length_cons,show k+1+l.length=k+(l.length+1) by omega]
  | some d =>
   rw[List.cons_append,aQ,aQ,ih,List.length_cons,show k+1+l.length=k+(l.length+1) by omega,List.cons_append]
theorem lP {l:List Pt} (h:Rk k l):∀ q∈l,k≤q.at_∧q.at_<32:=by
 induction l generalizing k with
 | nil => intro q hq; cases hq
 | cons p l ih =>
  intro q hq;rcases List.mem_cons.1 hq with rfl|hq
  ·exact⟨h.1,h.2.1⟩
  ·have h1:=ih h.2.2 q hq
   have h2:=h.1;exact⟨by omega,h1.2⟩
theorem Db {l:List Pt} (h:Rk k l) (hi:(i:Int)<k):lk l i=none:=by
 induction l generalizing k with
 | nil => rfl
 | cons p l ih =>
  have h1:=h.1;rw[lk,if_neg (by omega)];exact ih h.2.2 (by omega)
theorem sL (m k:Nat) (l:List Pt) (h:Rk (k:Int) l) (hm:∀ q∈l,q.at_<(k:Int)+m):aQ k (toL k m l)=l:=by
 induction m generalizing k l with
 | zero =>
  cases l with
  | nil => rfl
  | cons p l =>
   have h1:=h.1;have h2:=hm p (List.mem_cons_self ..);exfalso;omega
 | succ m ih =>
  unfold toL;rw[List.range'_succ,List.map_cons];cases l with
  | nil =>
   rw[show lk [] k=none from rfl,aQ];exact ih (k+1) [] trivial (fun q hq=>by cases hq)
  | cons p l =>
   by_cases he:p.at_=(k:Int)
   ·rw[show lk (p::l) k=some p.d by rw[lk,if_pos he],aQ]
    have hc:(List.range' (k+1) m).map (lk (p::l))=toL (k+1) m l:=by
     unfold toL;refine List.map_congr_left fun i hi=>?_
     have:=List.mem_range'_1.1 hi;rw[lk,if_neg (by omega)]
    rw[hc,ih (k+1) l (by have:=h.2.2;rw[he] at this;exact_mod_cast this) (fun q hq=>by have:=hm q (List.mem_cons_of_mem _ hq);push_cast at this ⊢;omega)];rw[←he]
   ·rw[show lk (p::l) k=none by rw[lk,if_neg he];exact Db h.2.2 (by have:=h.1;omega),aQ]
    exact ih (k+1) (p::l) ⟨by have:=h.1;push_cast;omega,h.2.1,h.2.2⟩ (fun q hq=>by have:=hm q hq;push_cast at this ⊢;omega)
theorem uM (l:List Pt) (p:Pt) (i:Nat):lk (cX l p) i=if p.at_=(i:Int) then some p.d else lk l i:=by
 induction l with
 | nil => rfl
 | cons q l ih =>
  rw[cX];split
  ·rw[lk,lk,ih]
   split
   ·rw[if_neg (by omega)]
   ·rfl
  ·split
   ·rw[lk,lk]
    split
    ·rfl
    ·rw[if_neg (by omega)]
   ·rw[lk]
theorem lY {l:List Pt} {p:Pt} (h:Rk k l) (h1:k≤p.at_) (h2:p.at_<32):Rk k (cX l p):=by
 induction l generalizing k with
 | nil => exact ⟨h1, h2, trivial⟩
 | cons q l ih =>
  have h3:=h.1;rw[cX];split
  ·exact⟨h.1,h.2.1,ih h.2.2 (by omega)⟩
  ·split
   ·next he=>exact⟨h1,h2,by have:=h.2.2;rw[he] at this;exact this⟩
   ·exact⟨h1,h2,by omega,h.2.1,h.2.2⟩
theorem toL_putR {l:List Pt} {p:Pt} (h1:0≤p.at_) (_h2:p.at_<32):(toL 0 32 l).set p.at_.toNat (some p.d)=toL 0 32 (cX l p):=by
 apply List.ext_getElem?;intro i;unfold toL;rw[List.getElem?_set];simp only[List.getElem?_map,List.length_map,List.length_range'];by_cases hi:i<32
 ·rw[List.getElem?_range' hi]
  by_cases he:p.at_.toNat=i
  ·rw[if_pos he,if_pos (by omega),Option.map_some,uM,if_pos (by omega)]
  ·rw[if_neg he,Option.map_some,Option.map_some,uM,if_neg (by omega)]
 ·have hn:(List.range' 0 32)[i]?=none:=List.getElem?_eq_none (by simp;omega)
  rw[hn];split
  ·rw[if_neg (by omega)]
   rfl
  ·rfl
theorem Af (ps l:List Pt) (h:∀ q∈ps,0≤q.at_∧q.at_<32):dD (toL 0 32 l) ps=toL 0 32 (ps.foldl cX l):=by
 induction ps generalizing l with
 | nil => rfl
 | cons p ps ih =>
  have hp:=h p (List.mem_cons_self ..);have h1:=ih (cX l p) (fun q hq=>h q (List.mem_cons_of_mem _ hq));unfold dD at h1 ⊢;rw[List.foldl_cons,toL_putR hp.1 hp.2,h1,List.foldl_cons]
theorem sY {ps l:List Pt} (hl:Rk 0 l) (h:∀ q∈ps,0≤q.at_∧q.at_<32):Rk 0 (ps.foldl cX l):=by
 induction ps generalizing l with
 | nil => exact hl
 | cons p ps ih =>
  have hp:=h p (List.mem_cons_self ..);exact ih (lY hl hp.1 hp.2) (fun q hq=>h q (List.mem_cons_of_mem _ hq))
theorem BP {l:List Pt} {p:Pt} (h:∀ q∈l,q.at_<p.at_):cX l p=l++[p]:=by
 induction l with
 | nil => rfl
 | cons q l ih => rw [cX, if_pos (h q (List.mem_cons_self ..)), ih (fun x hx => h x (List.mem_cons_of_mem _ hx)), List.cons_append]
theorem vK {ps l:List Pt} (h:Rk k ps) (hl:∀ q∈l,q.at_<k):ps.foldl cX l=l++ps:=by
 induction ps generalizing k l with
 | nil => simp
 | cons p ps ih =>
  have h1:=h.1;rw[List.foldl_cons,BP (fun q hq=>by have:=hl q hq;omega),ih h.2.2 (fun q hq=>by
   rcases List.mem_append.1 hq with h2|h2
   ·have:=hl q h2
    omega
   ·simp at h2
    subst h2;omega),List.append_assoc]
  rfl
def gU:List (Option B8):=List.replicate 32 none
theorem yQ:gU=toL 0 32 []:=by
 rfl
theorem qh {ps:List Pt} (h:∀ q∈ps,0≤q.at_∧q.at_<32):aQ 0 (dD gU ps)=ps.foldl cX []:=by
 rw[yQ,Af ps [] h];have hr:=sY (l:=[]) trivial h;exact sL 32 0 _ hr (fun q hq=>by have:=(lP hr q hq).2;omega)
theorem lR (fs:List (Option B8)) (p q:List Pt):dD fs (p++q)=dD (dD fs p) q:=by unfold dD;rw[List.foldl_append]
theorem BQ {ps:List Pt} {p:Pt} (h:Rk 0 ps) (h1:0≤p.at_) (h2:p.at_<32):aQ 0 (dD (dD gU ps) [p])=cX ps p:=by
 rw[←lR,qh (fun q hq=>by
  rcases List.mem_append.1 hq with h3|h3
  ·exact lP h q h3
  ·simp at h3
   subst h3;exact⟨h1,h2⟩),List.foldl_append,vK h (fun q hq=>by cases hq)]
 rfl
theorem oe {ps:List Pt} (h:bB n ps=true) (hn:n≤32):Rk 0 ps:=by
 have key:∀ m j,ps.length-j=m→Rk (ct ps j) (ps.drop j):=by
  intro m;induction m with
  | zero =>
   intro j hj;rw[List.drop_of_length_le (by omega)];trivial
  | succ m ih =>
   intro j hj;have hlt:j<ps.length:=by omega
   rw[List.drop_eq_getElem_cons hlt];have h1:=kL h (F0 hlt);refine⟨h1.1,by omega,?_⟩;have h2:=ih (j+1) (by omega);rw[ct,Ga,F0 hlt] at h2;exact h2
 exact key ps.length 0 (by omega)
def iF (n num:Int) (len i:Nat) (e:Ep):Bool:=bB n e.aI && decide (e.num=num-len+1+i)
def dE:Ep:=⟨0,[]⟩
def ep (es:List Ep) (num n:Int):Bool:=decide ((es.length:Int)≤num) && (List.range es.length).all (fun i=>iF n num es.length i (es.getD i dE))
def ri (es:List Ep) (num n:Int) (k:Nat):Prop:=∀ i,i<k→iF n num es.length i (es.getD i dE)=true
def fh (b:Bu) (n:Int):Bool:=!(b.be && decide (0<b.se.length)) && bB n b.op && ep b.se b.num n
def aK (b:Bu) (n:Int):Int :=
 if n<1∨32<n∨b.num<0∨2147483647<b.num then 1 else if 4<b.se.length then 2 else if fh b n then 0 else 3
theorem rP {es:List Ep} (hi:i<es.length) (h:iF n num es.length i (es.getD i dE)=false):ep es num n=false:=by
 unfold ep;rw[Bool.and_eq_false_iff];right;rw[List.all_eq_false];exact⟨i,List.mem_range.2 hi,by rw[h];simp⟩
theorem AR {es:List Ep} (h:num<es.length):ep es num n=false:=by
 unfold ep;rw[Bool.and_eq_false_iff];left;simp;omega
theorem jc {es:List Ep} (h0:(es.length:Int)≤num) (h:ri es num n es.length):ep es num n=true:=by
 unfold ep;rw[Bool.and_eq_true];refine⟨by simpa using h0,?_⟩;rw[List.all_eq_true];exact fun i hi=>h i (List.mem_range.1 hi)
theorem vJ {es:List Ep} {k:Nat} (h:ri es num n k) (hg:iF n num es.length k (es.getD k dE)=true):ri es num n (k+1):=by
 intro j hj;rcases Nat.lt_succ_iff_lt_or_eq.1 hj with h1|h1
 ·exact h j h1
 ·subst h1
  exact hg
theorem iR {es:List Ep} (h:ep es num n=true) {e:Ep} (he:es[i]?=some e):bB n e.aI=true∧e.num=num-es.length+1+i:=by
 unfold ep at h;rw[Bool.and_eq_true,List.all_eq_true] at h;have h1:=h.2 i (List.mem_range.2 (Gh.1 he).1);unfold iF at h1;rw[Ga,he] at h1;simpa using h1
theorem jd {es:List Ep} (h:ep es num n=true):(es.length:Int)≤num:=by
 unfold ep at h;rw[Bool.and_eq_true] at h;simpa using h.1
def many (b:Bu) (k:Int):Nat:=min (b.num-k).toNat b.se.length
def aJ (b:Bu) (k:Int):List Ep:=b.se.drop (b.se.length-many b k)
def fF (b:Bu) (p:Pt):Bu:=⟨b.num,cX b.op p,b.se,b.be⟩
def dA (b:Bu):Bool:=b.be || decide (b.se.length=4)
def bS (b:Bu):Bu:=⟨b.num+1,[],if dA b then [] else b.se++[⟨b.num+1,b.op⟩],dA b⟩
def cE (b:Bu) (k:Int):Bu:=⟨b.num,b.op,aJ b k,b.be && decide (k≠b.num)⟩
def dW (es:List Ep):List Pt:=(es.flatMap (·.aI)).foldl cX []
def zBu:Bu:=⟨0,[],[],false⟩
end Mx
end
section
open Go.RowKit
theorem Bx.two {w:World} {g:Nat} {s0 s1:Value} {t:TypeId} (h:Bx w g #[s0,s1] t):w.cell? ⟨g,0,none⟩=some s0∧w.cell? ⟨g,1,none⟩=some s1:=⟨h.cell 0,h.cell 1⟩
theorem ti (g:Nat) (nx n z:Int) (w:World) (hb:Bx w g #[.int .i64 nx,.int .i64 n] 285) (h1:nx≤z) (h2:z<n) (h3:n≤1000) (h4:0≤nx) :
 Calls Tryz.prog 163 #[.pointer (some ⟨g,0,none⟩),.int .i64 z] w fun e w'=>e=.returned (.bool true)∧w'=w.setCell ⟨g,0,none⟩ (.int .i64 (z+1)):=by
 obtain⟨c0,c1⟩:=hb.two;have cz:=hb.frozen;have hd1:decide (z<nx)=false:=by simp;omega
 have hd2:decide (n≤z)=false:=by simp;omega
 clear hb;go_enter Tryz.func163,Tryz.ntmps163;go_wp2_with fail;go_ret;exact⟨rfl,rfl⟩
theorem vh (g:Nat) (nx n z:Int) (w:World) (hb:Bx w g #[.int .i64 nx,.int .i64 n] 285) (h:z<nx∨n≤z) :
 Calls Tryz.prog 163 #[.pointer (some ⟨g,0,none⟩),.int .i64 z] w fun e w'=>e=.returned (.bool false)∧w'=w:=by
 obtain⟨c0,c1⟩:=hb.two;clear hb;by_cases h1:z<nx
 ·have hd1:decide (z<nx)=true:=by simpa using h1
  clear h;go_enter Tryz.func163,Tryz.ntmps163;go_wp2_with fail;go_ret;exact⟨rfl,rfl⟩
 ·have hd1:decide (z<nx)=false:=by simpa using h1
  have h2:n≤z:=by omega
  have hd2:decide (n≤z)=true:=by simpa using h2
  clear h;go_enter Tryz.func163,Tryz.ntmps163;go_wp2_with fail;go_ret;exact⟨rfl,rfl⟩
def Mx.fP (n:Int) (ps:List Pt):Int:=if Mx.bB n ps=true then 0 else 1
theorem qG (a:Option Addr) (m c:Nat) (ps:List Pt) (n:Nat) (w:World) (hp:PL w a m ps) (hn:n≤1000) :
 Calls Tryz.prog 153 #[.slice a m c,.int .i64 (n:Int)] w fun e w'=>e=.returned (bt (Mx.fP n ps))∧Gq w w':=by
 have hlen:m≤maxLen:=hp.2.2.1;unfold maxLen at hlen;have HP:=aa hp;have HN:=aa hp.1;clear hp;go_enter Tryz.func153,Tryz.ntmps153;go_wp2_with fail;go_loopw [12] (fun t wr=>∃ k:Nat,k≤m∧t=.int .i64 (k:Int)∧Hid (Mx.j6 n ps k)∧Hid (Bx wr w.heap.size #[.int .i64 (Mx.ct ps k),.int .i64 (n:Int)] 285)∧Hid (Gq w wr)) (fun t _=>m-(intOf t).toNat)
 case atStart=>exact⟨0,by omega,rfl,fun j hj=>absurd hj (by omega),Bx.new _ _ _,af _ _⟩
 case round =>
  obtain⟨k,hk,rfl,hR,hX,hB⟩:=hrel;by_cases hlt:k<m
  ·obtain⟨b,off,p,hab,_,hpk,e0,e1,e2,e3,e4,e5,e6,e7,e8⟩:=(HP.o.later hB.o).at_ k hlt
   subst hab;have HG:=aa (show Mx.eD n ps k=(decide (Mx.ct ps k≤p.at_) && decide (p.at_<n)) by unfold Mx.eD;rw[Ga,hpk];rfl);have HNX:=aa (show Mx.ct ps (k+1)=p.at_+1 by rw[Mx.ct,Ga,hpk];rfl);have HNN:=aa (Mx.jS hR.o);obtain⟨z,hz⟩:∃ z:Int,Hid (z=p.at_):=⟨_,rfl⟩
   obtain⟨nx,hnx⟩:∃ nx:Int,Hid (nx=Mx.ct ps k):=⟨_,rfl⟩
   rw[←hz.o] at e0 HG HNX;rw[←hnx.o] at HG hX HNN;have hki:(k:Int)<m:=by omega
   clear hpk;obtain⟨w1,hw1⟩:∃ w1:World,Hid (w1=wr.alloc (.cells #[.int .i64 z,.int .u8 p.d.z0,.int .u8 p.d.z1,.int .u8 p.d.z2,.int .u8 p.d.z3,.int .u8 p.d.z4,.int .u8 p.d.z5,.int .u8 p.d.z6,.int .u8 p.d.z7] 114)):=⟨_,rfl⟩
   have X1:=aa (show Bx w1 w.heap.size #[.int .i64 nx,.int .i64 (n:Int)] 285 by rw[hw1.o];exact hX.o.alloc _);have B1:=aa (show Gq w w1 by rw[hw1.o];exact hB.o.alloc hB.o.size _);go_wp2_with fail;rw[←hw1.o];by_cases hg:nx≤z∧z<(n:Int)
   ·have HR2:=aa (Mx.mq hR.o (by rw[HG.o];simp;omega))
    refine(ti w.heap.size nx n z w1 X1.o hg.1 hg.2 (by omega) HNN.o).mono ?_;rintro e w2 ⟨rfl,rfl⟩;have X2:=aa (show Bx (w1.setCell ⟨w.heap.size,0,none⟩ (.int .i64 (z+1))) w.heap.size #[.int .i64 (Mx.ct ps (k+1)),.int .i64 (n:Int)] 285 by rw[HNX.o];exact X1.o.set 0 _);have B2:=aa (B1.o.setCell (p:=⟨w.heap.size,0,none⟩) (Gi w.heap.size) (.int .i64 (z+1)));obtain⟨w2,hw2⟩:∃ w2:World,Hid (w2=w1.setCell ⟨w.heap.size,0,none⟩ (.int .i64 (z+1))):=⟨_,rfl⟩
    rw[←hw2.o] at X2 B2 ⊢;clear e0 e1 e2 e3 e4 e5 e6 e7 e8 hg;go_wp2_with fail;go_roundw
    case rel=>exact⟨k+1,by omega,by go_num,HR2,X2,B2⟩
    case measure=>simp[intOf];omega
   ·have HF:=aa (show Mx.fP n ps=1 by
     rw[Mx.fP,Mx.lO (k:=k) (by rw[HN.o];exact hlt) (by rw[HG.o,Bool.and_eq_false_iff];simp;omega)];rfl)
    refine(vh w.heap.size nx n z w1 X1.o (by omega)).mono ?_;rintro e w2 ⟨rfl,rfl⟩;clear e0 e1 e2 e3 e4 e5 e6 e7 e8 hg;go_wp2_with fail;go_ret;exact⟨by rw[HF.o]<;>rfl,B1.o⟩
  ·have HF:=aa (show Mx.fP n ps=0 by
    rw[Mx.fP,Mx.jy (n:=n) (ps:=ps) (fun j hj=>hR.o j (by have:=HN.o;omega))];rfl)
   go_wp2_with fail;go_ret;exact⟨by rw[HF.o]<;>rfl,hB.o⟩
def Mx.gD (n:Nat) (had:List B8):Int:=if n<1∨32<n then 1 else Mx.bT had
theorem kT (a ah:Option Addr) (n c nh ch:Nat) (had:List B8) (w:World) (hh:BL w ah nh had) (hc:nh≤ch) :
 Calls Tryz.prog 152 #[.slice a n c,.slice ah nh ch] w fun e w'=>e=.returned (bt (Mx.gD n had))∧Gq w w':=by
 have HH:=aa hh;clear hh;by_cases h1:(n:Int)<1
 ·have hd1:decide ((n:Int)<1)=true:=by simpa using h1
  have HF:=aa (show Mx.gD n had=1 by rw[Mx.gD,if_pos (by omega)]);go_enter Tryz.func152,Tryz.ntmps152;go_wp2_with fail;go_ret;exact⟨by rw[HF.o]<;>rfl,Below.refl _ _⟩
 ·have hd1:decide ((n:Int)<1)=false:=by simpa using h1
  by_cases h2:(32:Int)<n
  ·have hd2:decide ((32:Int)<n)=true:=by simpa using h2
   have HF:=aa (show Mx.gD n had=1 by rw[Mx.gD,if_pos (by omega)]);go_enter Tryz.func152,Tryz.ntmps152;go_wp2_with fail;go_ret;exact⟨by rw[HF.o]<;>rfl,Below.refl _ _⟩
  ·have hd2:decide ((32:Int)<n)=false:=by simpa using h2
   have HF:=aa (show Mx.gD n had=Mx.bT had by rw[Mx.gD,if_neg (by omega)]);go_enter Tryz.func152,Tryz.ntmps152;go_wp2_with fail;refine(kl ah nh ch had w HH.o hc).mono ?_;rintro e w1 ⟨rfl,hb⟩;go_wp2_with fail;go_ret;exact⟨by rw[HF.o]<;>rfl,hb⟩
def Mx.eK (l:List B8) (b:B8):Int:=if Mx.dU l b<0 then 0 else Mx.dU l b
def Mx.dd (l:List B8) (b:B8):Bool:=decide (0≤Mx.dU l b)
theorem AP (a:Option Addr) (n c:Nat) (l:List B8) (x:B8) (w:World) (hl:BL w a n l) :
 Calls Tryz.prog 203 #[.slice a n c,.agg #[.int .u8 x.z0,.int .u8 x.z1,.int .u8 x.z2,.int .u8 x.z3,.int .u8 x.z4,.int .u8 x.z5,.int .u8 x.z6,.int .u8 x.z7]] w fun e w'=>e=.returned (.tuple #[.int .i64 (Mx.eK l x),.bool (Mx.dd l x)])∧Gq w w':=by
 have HL:=aa hl;clear hl;go_enter Tryz.func203,Tryz.ntmps203;go_wp2_with fail;refine(pM a n c l x _ (HL.o.later (af _ _))).mono ?_;rintro e w1 ⟨rfl,hb1⟩;have B1:=aa ((af w (.cells #[.int .u8 x.z0,.int .u8 x.z1,.int .u8 x.z2,.int .u8 x.z3,.int .u8 x.z4,.int .u8 x.z5,.int .u8 x.z6,.int .u8 x.z7] 33)).trans (hb1.mono (by simp)));clear hb1;obtain⟨F,hF⟩:∃ F:Int,Hid (F=Mx.dU l x):=⟨_,rfl⟩
 rw[←hF.o];by_cases h:F<0
 ·have HA:=aa (show Mx.eK l x=0 by rw[Mx.eK,if_pos (by rw[←hF.o];exact h)])
  have HB:=aa (show Mx.dd l x=false by rw[Mx.dd,←hF.o];simp;omega);go_wp2_with fail;go_ret2
  exact⟨by rw[HA.o,HB.o]<;>rfl,B1.o⟩
 ·have HA:=aa (show Mx.eK l x=F by rw[Mx.eK,if_neg (by rw[←hF.o];exact h),hF.o])
  have HB:=aa (show Mx.dd l x=true by rw[Mx.dd,←hF.o];simp;omega);go_wp2_with fail;go_ret2
  exact⟨by rw[HA.o,HB.o]<;>rfl,B1.o⟩
end
section
open Go.RowKit
theorem mb (a:Option Addr) (m c:Nat) (ps:List Pt) (n:Nat) (w:World) (hp:PL w a m ps) (hn:n≤1000) :
 Calls Tryz.prog 107 #[.slice a m c,.int .i64 (n:Int)] w fun e w'=>e=.returned (.bool (Mx.bB n ps))∧Gq w w':=by
 have hlen:m≤maxLen:=hp.2.2.1;unfold maxLen at hlen;have HP:=aa hp;have HN:=aa hp.1;clear hp;go_enter Tryz.func107,Tryz.ntmps107;go_wp2_with fail;go_loopw [5,10] (fun v t wr=>∃ (k:Nat) (nx:Int),k≤m∧t=.int .i64 (k:Int)∧v=.int .i64 nx∧Hid (nx=Mx.ct ps k)∧Hid (Mx.j6 n ps k)∧Hid (Gq w wr)) (fun _ t _=>m-(intOf t).toNat)
 case atStart=>exact⟨0,0,by omega,rfl,rfl,rfl,fun j hj=>absurd hj (by omega),Below.refl _ _⟩
 case round =>
  obtain⟨k,nx,hk,rfl,rfl,hnx,hR,hB⟩:=hrel;by_cases hlt:k<m
  ·obtain⟨b,off,p,hab,_,hpk,e0,e1,e2,e3,e4,e5,e6,e7,e8⟩:=(HP.o.later hB.o).at_ k hlt
   subst hab;have HG:=aa (show Mx.eD n ps k=(decide (Mx.ct ps k≤p.at_) && decide (p.at_<n)) by unfold Mx.eD;rw[Ga,hpk];rfl);have HNX:=aa (show Mx.ct ps (k+1)=p.at_+1 by rw[Mx.ct,Ga,hpk];rfl);have HNN:=aa (Mx.jS hR.o);obtain⟨z,hz⟩:∃ z:Int,Hid (z=p.at_):=⟨_,rfl⟩
   rw[←hz.o] at e0 HG HNX;rw[←hnx.o] at HG HNN;clear hpk;have B1:=aa (hB.o.alloc hB.o.size (.cells #[.int .i64 z,.int .u8 p.d.z0,.int .u8 p.d.z1,.int .u8 p.d.z2,.int .u8 p.d.z3,.int .u8 p.d.z4,.int .u8 p.d.z5,.int .u8 p.d.z6,.int .u8 p.d.z7] 114));by_cases h1:z<nx
   ·have hd1:decide (z<nx)=true:=by simpa using h1
    have HF:=aa (Mx.lO (n:=n) (ps:=ps) (k:=k) (by rw[HN.o];exact hlt) (by rw[HG.o,Bool.and_eq_false_iff];simp;omega));go_wp2_with fail;go_ret;exact⟨by rw[HF.o]<;>rfl,B1.o⟩
   ·have hd1:decide (z<nx)=false:=by simpa using h1
    by_cases h2:(n:Int)≤z
    ·have hd2:decide ((n:Int)≤z)=true:=by simpa using h2
     have HF:=aa (Mx.lO (n:=n) (ps:=ps) (k:=k) (by rw[HN.o];exact hlt) (by rw[HG.o,Bool.and_eq_false_iff];simp;omega));go_wp2_with fail;go_ret;exact⟨by rw[HF.o]<;>rfl,B1.o⟩
    ·have hd2:decide ((n:Int)≤z)=false:=by simpa using h2
     have HR2:=aa (Mx.mq hR.o (by rw[HG.o];simp;omega));have hz0:0≤z:=by have:=HNN.o;omega
     have hz1:z<1000:=by omega
     go_wp2_with fail;go_roundw
     case rel=>exact⟨k+1,z+1,by omega,by go_num,rfl,by rw[HNX.o];exact aa rfl,HR2,B1⟩
     case measure=>simp[intOf];omega
  ·have HF:=aa (Mx.jy (n:=n) (ps:=ps) (fun j hj=>hR.o j (by have:=HN.o;omega)))
   go_wp2_with fail;go_ret;exact⟨by rw[HF.o]<;>rfl,hB.o⟩
end
section
open Go.RowKit
variable {w1 wB:World} {v1 s2:Value}
namespace Mx
def aD (ls:List B8) (ps:List Pt):List B8:=ps.foldl (fun s p=>s.set p.at_.toNat p.d) ls
theorem cN (ls:List B8) (ps:List Pt):(aD ls ps).length=ls.length:=by
 induction ps generalizing ls with
 | nil => rfl
 | cons p ps ih => rw [aD, List.foldl_cons, ← aD, ih, List.length_set]
theorem gq (ls:List B8) (ps:List Pt) (k:Nat) (p:Pt) (h:ps[k]?=some p):aD ls (ps.take (k+1))=(aD ls (ps.take k)).set p.at_.toNat p.d:=by
 rw[aD,List.take_add_one,h,Option.toList_some,List.foldl_append,←aD];rfl
def dt (n:Nat) (ps:List Pt) (left:Int):Int:=if cC n ps=0 then (if left=0 then 4 else 0) else cC n ps
end Mx
def cK (w1 wf:World) (gn:Nat) (v1 s2:Value) (ls:List B8):Prop :=
 Bx wf gn #[v1,.slice none 0 0,s2] 130∧au wf w1.heap.size v1 ls∧Gq w1 wf∧w1.heap.size≤gn
theorem EU {ls:List B8} (hoB:au wB w1.drew.heap.size v1 ls) (hbB:ij w1 w1.drew wB):cK w1 (wB.alloc (.cells #[v1,.slice none 0 0,s2] 130)) wB.heap.size v1 s2 ls :=
 ⟨Bx.new _ _ _,World.ownsRow.alloc hoB _,hbB.1.alloc hbB.1.size _,hbB.1.size⟩
theorem EW {z0 z1 z2:Value} {ls:List B8} (hoB:au wB (w1.alloc (.cells #[z0,z1,z2] 130)).drew.heap.size v1 ls) (hbB:ij w1 (w1.alloc (.cells #[z0,z1,z2] 130)).drew wB) :
 cK w1 (((wB.setCell ⟨w1.heap.size,0,none⟩ v1).setCell ⟨w1.heap.size,1,none⟩ (.slice none 0 0)).setCell ⟨w1.heap.size,2,none⟩ s2) w1.heap.size v1 s2 ls:=by
 have e3:(w1.alloc (.cells #[z0,z1,z2] 130)).drew.heap.size=w1.heap.size+1:=World.size_alloc _ _;have hx:Bx wB w1.heap.size #[z0,z1,z2] 130:=(Bx.dj w1 #[z0,z1,z2] 130).later hbB.2 (by rw[e3];omega);have n1:=aX hoB hx (by decide);exact⟨((hx.set 0 v1).set 1 (.slice none 0 0)).set 2 s2,World.ownsRow.mono (az (az (az hoB _ _ n1) _ _ n1) _ _ n1) (by rw[e3];omega),
  ((hbB.1.setCell (p:=⟨w1.heap.size,0,none⟩) (Gi _) v1).setCell (p:=⟨w1.heap.size,1,none⟩) (Gi _) (.slice none 0 0)).setCell (p:=⟨w1.heap.size,2,none⟩) (Gi _) s2,Gi _⟩
theorem au.fz {w:World} {base g n c:Nat} {l:List B8} (h:au w base (.slice (some ⟨g,0,none⟩) n c) l):g<w.heap.size∧base≤g∧∀ o,w.frozen? ⟨g,o,none⟩=false:=by
 rcases h.2 with ⟨hv,_⟩|⟨g',cap,cur,hv,hb,hh,_⟩
 ·cases hv
 ·simp only[Value.slice.injEq,Option.some.injEq,Addr.mk.injEq,and_true] at hv
  obtain⟨rfl,rfl,rfl⟩:=hv;exact⟨(Array.getElem?_eq_some_iff.1 hh).1,hb,fun o=>(show Bx w g cur 33 from hh).frozen o⟩
theorem cK.put {w1 wf:World} {gn g n c:Nat} {s2:Value} {ls:List B8} (h:cK w1 wf gn (.slice (some ⟨g,0,none⟩) n c) s2 ls) (o:Obj) (j:Nat) (hj:j<ls.length) (x:B8):cK w1 ((aR wf g (j*8) x).alloc o) gn (.slice (some ⟨g,0,none⟩) n c) s2 (ls.set j x):=by
 have n1:=aX h.2.1 h.1 (by decide);have hg:=(World.ownsRow.lt h.2.1 g rfl).1;have hb:=bP h.2.2.1 hg (j*8) x;exact⟨(h.1.aR (fun e=>n1 (by rw[e];rfl)) _ x).alloc o,World.ownsRow.alloc (au.put h.2.1 j hj x) o,hb.alloc hb.size o,h.2.2.2⟩
theorem yl (sa pa:Option Addr) (n sc m pc:Nat) (left:Int) (ls:List B8) (ps:List Pt) (w:World) (hs:BL w sa n ls) (hp:PL w pa m ps) (hl1:-9223372036854775808≤left) (hl2:left≤9223372036854775807) (hm:Mx.dt n ps left=0) :
 Calls Tryz.prog 110 #[.agg #[.slice sa n sc,.slice pa m pc,.int .i64 left]] w fun e w' =>
  ∃ v1,e=.returned (.tuple #[.agg #[v1,.slice none 0 0,.int .i64 (Mx.less left)],.nilIface])∧au w' w.heap.size v1 (Mx.aD ls ps)∧Gq w w':=by
 obtain⟨bT,hleft⟩:Hid (Mx.cC n ps=0)∧¬left=0:=by
  unfold Mx.dt at hm;split at hm
  ·rename_i h1
   split at hm
   ·omega
   ·rename_i h2
    exact⟨h1,h2⟩
  ·contradiction
 have HS:=aa hs;have HP:=aa hp;have HNN:=aa (show n≤maxLen from hs.2.2.1);have HL:=aa (And.intro hl1 hl2);obtain⟨hn0,hn1,hm8,HIN⟩:1≤n∧n≤200∧m≤800∧Hid (∀ p∈ps,0≤p.at_∧p.at_<n):=by
  obtain⟨h1,h2,h3,h4⟩:=Mx.ix bT.o;exact⟨h1,h2,by rw[←hp.1];exact h3,h4⟩
 have HLS:=aa hs.1;have HPS:=aa hp.1;clear hs hp hm hl1 hl2;have hle:(left==0)=false:=by simpa using hleft
 go_enter Tryz.func110,Tryz.ntmps110;go_wp2_with fail;refine(gm sa pa n sc m pc left ps _ (HP.o.later ((af _ _).alloc (by simp) _)) HNN.o).mono ?_;rintro e w1 ⟨rfl,hb1⟩;rw[bT.o,aG];have HBD:=aa (show Bx w1 w.heap.size #[.slice sa n sc,.slice pa m pc,.int .i64 left] 130 from((Bx.new w _ 130).alloc _).later hb1 (by simp;omega));have HBR:=aa (show Bx w1 (w.heap.size+1) #[.slice none 0 0,.slice none 0 0,.int .i64 0] 130 from by
  have h:=(Bx.new (w.alloc (.cells #[.slice sa n sc,.slice pa m pc,.int .i64 left] 130)) #[.slice none 0 0,.slice none 0 0,.int .i64 0] 130).later hb1 (by simp);rw[World.size_alloc] at h;exact h)
 have HBel:=aa (((af w (.cells #[.slice sa n sc,.slice pa m pc,.int .i64 left] 130)).alloc (by simp) _).trans (hb1.mono (by simp;omega)));have hsz:w.heap.size+2≤w1.heap.size:=by have:=hb1.size;simp at this;omega
 clear hb1;have HS1:=aa (HS.o.later HBel.o);have HP1:=aa (HP.o.later HBel.o);obtain⟨f0,f1,f2⟩:=HBD.o.three;have hg1:w.heap.size<w1.heap.size:=by omega
 have HN6:=aa (show n≤1000000 by omega);go_wp2_with fail;go_cut [5] (fun s5 wx=>∃ gn a1 c1,s5=.pointer (some ⟨gn,0,none⟩)∧Hid (cK w1 wx gn (.slice a1 n c1) (.int .i64 (Mx.less left)) ls))
 case first =>
  go_region_held (fun w'=>w'.cell? ⟨w.heap.size,0,none⟩=some (.slice sa n sc)∧w'.cell? ⟨w.heap.size,1,none⟩=some (.slice pa m pc)∧w'.cell? ⟨w.heap.size,2,none⟩=some (.int .i64 left)∧Gq w1 w')
   (first|exact cF.drew HBD.o|exact cF.of HBD.o hbB.o.1|assumption|(refine cF.alloc HBD.o ?_ _;assumption)|exact cF.of HBD.o (hbB.o.1.alloc hbB.o.1.size _)|exact cF.of HBD.o ((Below.refl _ _).drew.alloc (Gi _) _)|(refine cF.set HBD.o (cF.set HBD.o (cF.set HBD.o ?_ _ ?_ _) _ ?_ _) _ ?_ _<;>assumption))
   (first
   |(go_at_call 95;refine(iw (w1:=w1) sa n sc ls _ HS1.o HN6.o HBD.o (Bx.dj _ _ _) ?hge ?hbS).mono ?_;(case hge=>exact Gi _);(case hbS=>simp only[*]);rintro e wB ⟨a1,c1,rfl,hoB,hbB,⟨q0,q1,q2,q3,q4⟩,hxB,hgB,r0,r1,r2,r3,r4⟩)
   |(go_at_call 95;refine(lj (w1:=w1) sa n sc ls _ HS1.o HN6.o HBD.o ?hbS).mono ?_;(case hbS=>simp only[*]);rintro e wB ⟨a1,c1,rfl,hoB,hbB,q0,q1,q2,q3,q4⟩)
   |(go_at_call 131;refine(mi left _ HL.o.1 HL.o.2).mono ?_;rintro e wL ⟨rfl,rfl⟩))
  all_goals go_wp2_with fail
  all_goals go_meet
  all_goals first
   | exact ⟨_, _, _, rfl, EU hoB.o hbB.o⟩
   | exact ⟨_, _, _, rfl, EW hoB.o hbB.o⟩
 case rest =>
 obtain⟨gn,a1,c1,rfl,hmd⟩:=hcut;obtain⟨g,rfl,hg,hgl,hgn,_⟩:=hmd.o.2.1.form (by omega);clear hgn;have hne1:¬gn=w.heap.size:=by have:=hmd.o.2.2.2;omega
 obtain⟨d0,d1,d2⟩:=(HBD.o.later hmd.o.2.2.1 (by omega)).three;clear f0 f1 f2;go_wp2_with fail;go_loopw [7,29] (fun _ i wr=>∃ k:Nat,k≤m∧i=.int .i64 k∧Hid (cK w1 wr gn (.slice (some ⟨g,0,none⟩) n c1) (.int .i64 (Mx.less left)) (Mx.aD ls (ps.take k)))) (fun _ i _=>m-(intOf i).toNat)
 case atStart=>exact⟨0,by omega,rfl,by simpa [Mx.aD] using hmd⟩
 case round =>
  clear d0 d1 d2;obtain⟨k,hk,rfl,hmk⟩:=hrel;by_cases hlt:k<m
  ·obtain⟨b,off,p,hpa,hb,hx,e0,e1,e2,e3,e4,e5,e6,e7,e8⟩:=(HP1.o.later hmk.o.2.2.1).at_ k hlt
   subst hpa;have hin:=HIN.o p (Gp hx);obtain⟨j,hj⟩:=Int.eq_ofNat_of_zero_le hin.1;have HX:=aa hx;have HJ:=aa hj;rw[hj] at e0 hin;clear hx hj;have hjn:(j:Int)<n:=hin.2;obtain⟨y,_,y0,y1,y2,y3,y4,y5,y6,y7⟩:=hmk.o.2.1.at_ j (by omega);obtain⟨hgl2,_,yz⟩:=hmk.o.2.1.fz;obtain⟨b0,b1,b2⟩:=hmk.o.1.three;have bl:=hmk.o.1.lt;have HNX:=aa (hmk.o.put (.cells #[.int .i64 j,.int .u8 p.d.z0,.int .u8 p.d.z1,.int .u8 p.d.z2,.int .u8 p.d.z3,.int .u8 p.d.z4,.int .u8 p.d.z5,.int .u8 p.d.z6,.int .u8 p.d.z7] 114) j (by rw[Mx.cN,HLS.o];omega) p.d);go_wp2_with fail;go_roundw
   case rel =>
    refine⟨k+1,by omega,by go_num,?_⟩;unfold Hid;rw[Mx.gq ls ps k p HX.o,HJ.o,Int.toNat_natCast];exact HNX.o
   case measure=>simp[intOf];omega
  ·obtain rfl:k=m:=by omega
   have HF:=aa (show cK w1 wr gn (.slice (some ⟨g,0,none⟩) n c1) (.int .i64 (Mx.less left)) (Mx.aD ls ps) from by
    have h:=hmk.o;rw[Gj (Nat.le_of_eq HPS.o)] at h;exact h)
   obtain⟨b0,b1,b2⟩:=hmk.o.1.three;have HR2:=aa (HBR.o.later hmk.o.2.2.1 (by omega));obtain⟨t0,t1,t2⟩:=HR2.o.three;have tz:=HR2.o.frozen;go_wp2_with fail;obtain⟨r0,r1,r2⟩:=(show Bx _ _ #[.slice (some ⟨g,0,none⟩) n c1,.slice none 0 0,.int .i64 (Mx.less left)] 130 from((HR2.o.set 0 (.slice (some ⟨g,0,none⟩) n c1)).set 1 (.slice none 0 0)).set 2 (.int .i64 (Mx.less left))).three;refine bodyPost_ret (v:=.tuple #[.agg #[.slice (some ⟨g,0,none⟩) n c1,.slice none 0 0,.int .i64 (Mx.less left)],.nilIface]) (by simp[results,Tryz.results110,go_sem,r0,r1,r2]) rfl ⟨_,rfl,?_,?_⟩
   ·have k2:=aX HF.o.2.1 HR2.o (by decide)
    exact World.ownsRow.mono (az (az (az HF.o.2.1 _ _ k2) _ _ k2) _ _ k2) HBel.o.size
   ·have hb:=HBel.o.trans (HF.o.2.2.1.mono HBel.o.size)
    exact((hb.setCell (p:=⟨w.heap.size+1,0,none⟩) (by simp) _).setCell (p:=⟨w.heap.size+1,1,none⟩) (by simp) _).setCell (p:=⟨w.heap.size+1,2,none⟩) (by simp) _
theorem ym (sa pa:Option Addr) (n sc m pc:Nat) (left:Int) (ps:List Pt) (w:World) (hn:n≤maxLen) (hp:PL w pa m ps) (hm:¬Mx.dt n ps left=0) :
 Calls Tryz.prog 110 #[.agg #[.slice sa n sc,.slice pa m pc,.int .i64 left]] w fun e w' =>
  e=.returned (.tuple #[.agg #[.slice none 0 0,.slice none 0 0,.int .i64 0],bt (Mx.dt n ps left)])∧Gq w w':=by
 have HP:=aa hp;have HM:=aa hm;have HNN:=aa hn;clear hp hm hn;go_enter Tryz.func110,Tryz.ntmps110;go_wp2_with fail;refine(gm sa pa n sc m pc left ps _ (HP.o.later ((af _ _).alloc (by simp) _)) HNN.o).mono ?_;rintro e w1 ⟨rfl,hb1⟩;have HBD:=aa (show Bx w1 w.heap.size #[.slice sa n sc,.slice pa m pc,.int .i64 left] 130 from((Bx.new w _ 130).alloc _).later hb1 (by simp;omega));have HBR:=aa (show Bx w1 (w.heap.size+1) #[.slice none 0 0,.slice none 0 0,.int .i64 0] 130 from by
  have h:=(Bx.new (w.alloc (.cells #[.slice sa n sc,.slice pa m pc,.int .i64 left] 130)) #[.slice none 0 0,.slice none 0 0,.int .i64 0] 130).later hb1 (by simp);rw[World.size_alloc] at h;exact h)
 have HBel:=aa (((af w (.cells #[.slice sa n sc,.slice pa m pc,.int .i64 left] 130)).alloc (by simp) _).trans (hb1.mono (by simp;omega)));clear hb1;obtain⟨f0,f1,f2⟩:=HBD.o.three;obtain⟨e0,e1,e2⟩:=HBR.o.three;have ez:=HBR.o.frozen;obtain⟨r0,r1,r2⟩:=(show Bx _ _ #[.slice none 0 0,.slice none 0 0,.int .i64 0] 130 from(((HBR.o.set 0 (.slice none 0 0)).set 1 (.slice none 0 0)).set 2 (.int .i64 0))).three;have HBF:=aa (((HBel.o.setCell (p:=⟨w.heap.size+1,0,none⟩) (by simp) (.slice none 0 0)).setCell (p:=⟨w.heap.size+1,1,none⟩) (by simp) (.slice none 0 0)).setCell (p:=⟨w.heap.size+1,2,none⟩) (by simp) (.int .i64 0));by_cases hpl:Mx.cC n ps=0
 ·have HPL:=aa hpl
  rw[hpl,aG];clear hpl;by_cases hl:left=0
  ·have HE:=aa (show Mx.dt n ps left=4 by unfold Mx.dt;rw[if_pos HPL.o,if_pos hl])
   have hle:(left==0)=true:=by simpa using hl
   clear hl;go_wp2_with fail;exact bodyPost_ret (v:=.tuple #[.agg #[.slice none 0 0,.slice none 0 0,.int .i64 0],.iface 28 (.int .i64 4)]) (by simp[results,Tryz.results110,go_sem,r0,r1,r2]) rfl ⟨by rw[HE.o];rfl,HBF.o⟩
  ·exact absurd (show Mx.dt n ps left=0 by unfold Mx.dt;rw[if_pos HPL.o,if_neg hl]) HM.o
 ·have HE:=aa (show Mx.dt n ps left=Mx.cC n ps by unfold Mx.dt;rw[if_neg hpl])
  rw[aZ hpl];have HPL:=aa hpl;clear hpl;go_wp2_with fail;exact bodyPost_ret (v:=.tuple #[.agg #[.slice none 0 0,.slice none 0 0,.int .i64 0],.iface 28 (.int .i64 (Mx.cC n ps))]) (by simp[results,Tryz.results110,go_sem,r0,r1,r2]) rfl ⟨by rw[HE.o,aZ HPL.o],HBF.o⟩
end
section
open Go.RowKit Go.Shelf
attribute [local go_sem] Oper.semAt_some
def cI (ps:List Pt) (j:Nat):List (Nat × Pt):=(List.range j).map fun i=>(ps.length-1-i,ps.getD (ps.length-1-i) ⟨0,zB⟩)
theorem tr (ps:List Pt) (j:Nat):cI ps (j+1)=cI ps j++[(ps.length-1-j,ps.getD (ps.length-1-j) ⟨0,zB⟩)]:=by simp[cI,List.range_succ]
theorem vo (ps:List Pt) (j:Nat):(cI ps j).length=j:=by simp[cI]
def rL (x:Nat × Pt):Array Value:=#[.int .i64 (x.1:Int),.agg #[.int .i64 x.2.at_,.int .u8 x.2.d.z0,.int .u8 x.2.d.z1,.int .u8 x.2.d.z2,.int .u8 x.2.d.z3,.int .u8 x.2.d.z4,.int .u8 x.2.d.z5,.int .u8 x.2.d.z6,.int .u8 x.2.d.z7]]
theorem CF (n:Nat) (hn:1≤n) (l Bs n₀ cap m:Nat) (pa:Option Addr) (ps:List Pt) (hm:m≤1000) (J Jx:List (Nat × Pt)→World→Prop)
 (W:World) (_hn₀:n₀≤W.heap.size) (_hBn:Bs<W.heap.size) (_hJ:AbidesFrom W.heap.size J)
 (hY:∀ pre x W,J pre W→pre.length<m→YieldAt Fence.wide (n-1) Tryz.prog l (rL x) W fun e W' =>
   (e=.returned (.bool true)∧J (pre++[x]) W'∧KpS n₀ Bs W W')∨(e=.returned (.bool false)∧Jx (pre++[x]) W'))
 (hBs:W.cell? ⟨Bs,0,none⟩=some (.slice pa m cap)) (w0:World) (hw0:w0.heap.size≤n₀) (hp0:PL w0 pa m ps) (hW0:Gq w0 W) (h0:J [] W) :
 CallsIn Fence.wide n Tryz.prog 130 #[.func (.yield l) #[] #[],.pointer (some ⟨Bs,0,none⟩)] W fun e W'=>(∃ v,e=.returned v) ∧
  ((∃ ys,ys=cI ps m∧J ys W')∨(∃ pre,(∃ k,k≤m∧pre=cI ps k)∧Jx pre W')):=by
 have HP:=aa hp0;have HPL:=aa hp0.1;have HW0:=aa hW0;clear hp0 hW0;refine callsIn_of_wp Tryz.func130 rfl trivial ?_ rfl;simp only[Tryz.ntmps130,List.size_toArray,List.length_cons,List.length_nil,Nat.reduceAdd,Nat.reduceSub,Array.replicate_succ,Array.replicate_zero,List.push_toArray,List.append_toArray,List.nil_append,List.cons_append];gi_wp2
 gi_loopw [3] (fun i wr=>∃ k:Nat,k≤m∧i=.int .i64 ((m:Int)-1-(k:Int))∧J (cI ps k) wr∧Below n₀ W wr∧wr.heap[Bs]?=W.heap[Bs]?)
  (fun i _=>(intOf i+1).toNat)
 case atStart=>exact⟨0,Nat.zero_le _,by simp,h0,Below.refl _ _,rfl⟩
 case round =>
  obtain⟨k,hk,rfl,hJs,hnx,hbs⟩:=hrel;have HBS:=aa hbs;have hbx:wr.cell? ⟨Bs,0,none⟩=some (.slice pa m cap):=(World.cell?_of_block (w:=W) (a:=⟨Bs,0,none⟩) hbs).trans hBs;clear hbs;by_cases hlt:k<m
  ·obtain⟨i,hi⟩:∃ i:Nat,i+1+k=m:=⟨m-1-k,by omega⟩
   have hie:(m:Int)-1-(k:Int)=(i:Int):=by omega
   have HB0:=aa (HW0.o.trans (hnx.mono hw0));obtain⟨b,off,p,hpa,hb,hx,e0,e1,e2,e3,e4,e5,e6,e7,e8⟩:=(HP.o.later HB0.o).at_ i (by omega);subst hpa;have HX:=aa (show cI ps (k+1)=cI ps k++[(i,p)] by
    rw[tr,HPL.o,show m-1-k=i by omega,Ga,hx];rfl)
   clear hx;rw[hie];have hi0:(0:Int)≤(i:Int):=by omega
   have him:(i:Int)<(m:Int):=by omega
   obtain⟨fn,tmps,assign,body,hy,hR⟩:=hY (cI ps k) (i,p) wr hJs (by rw[vo];exact hlt);unfold rL at hy;gi_wp2
   refine hR.mono ?_;rintro e W3 (⟨rfl,hJ3,hk3⟩|⟨rfl,hJx3⟩)
   ·gi_wp2
    go_roundw
    case rel=>exact⟨k+1,by omega,congrArg (Value.int .i64) (by omega),by rw[HX.o];exact hJ3,hnx.trans hk3.1,hk3.2.trans HBS.o⟩
    case measure=>simp[intOf]
   ·gi_wp2
    refine bodyPost_ret (results_none rfl _ _ _) rfl ?_;exact⟨⟨_,rfl⟩,.inr ⟨_,⟨k+1,by omega,HX.o.symm⟩,hJx3⟩⟩
  ·obtain rfl:k=m:=by omega
   have hlast:(k:Int)-1-(k:Int)=-1:=by omega
   rw[hlast];gi_wp2
   go_end0
   exact⟨⟨_,rfl⟩,.inl ⟨_,rfl,hJs⟩⟩
theorem ts (n:Nat) (a:Option Addr) (len cap:Nat) (w:World) :
 CallsIn Fence.wide n Tryz.prog 100 #[.slice a len cap] w fun e w'=>e=.returned (.func (.func 130) #[] #[.pointer (some ⟨w.heap.size,0,none⟩)])∧w'=w.alloc (.cells #[.slice a len cap] 98):=by
 refine callsIn_of_wp Tryz.func100 rfl trivial ?_ rfl;simp only[Tryz.ntmps100,List.size_toArray,List.length_cons,List.length_nil,Nat.reduceAdd,Nat.reduceSub,Array.replicate_succ,Array.replicate_zero,List.push_toArray,List.append_toArray,List.nil_append,List.cons_append];gi_wp2
 go_ret;exact⟨rfl,rfl⟩
theorem vp (n:Nat) (hn:1≤n) (Bs n₀ cap m:Nat) (pa:Option Addr) (ps:List Pt) (hm:m≤1000) (w0:World) (hw0:w0.heap.size≤n₀) (hp0:PL w0 pa m ps) (w:World) (hb0:Gq w0 w) (hn₀:n₀≤w.heap.size) (hBn:Bs<w.heap.size)
 (hBs:w.cell? ⟨Bs,0,none⟩=some (.slice pa m cap)) :
 SeqStopsK Fence.wide n Tryz.prog 130 #[.pointer (some ⟨Bs,0,none⟩)] rL (KpS n₀ Bs) (fun ys=>ys=cI ps m) (fun pre=>∃ k,k≤m∧pre=cI ps k) m w:=fun l J Jx W hW hJ _ hY h0 =>
 CF n hn l Bs n₀ cap m pa ps hm J Jx W (Gn hn₀ hW.size) (Gf hBn hW.size) hJ hY ((hW.cell (p:=⟨Bs,0,none⟩) hBn).trans hBs) w0 hw0 hp0 (hb0.trans (hW.mono hb0.size)) h0
end
section
open Go.RowKit Go.Shelf
variable {at_:Int}
attribute [local go_sem] Oper.semAt_some
namespace Mx
def dC (ls:List B8) (ps:List Pt) (at_:Int):B8 :=
 match ps.reverse.find? (fun p=>p.at_==at_) with
 | some p => p.d
 | none => ls.getD at_.toNat zB
def iy (n:Nat) (ps:List Pt) (left at_:Int):Int:=if bR n ps at_=0 then (if left=0 then 4 else 0) else bR n ps at_
end Mx
theorem m7 (ps:List Pt) (k:Nat) (hk:k≤ps.length):(cI ps k).map Prod.snd=ps.reverse.take k:=by
 apply List.ext_getElem?;intro i;by_cases h:i<k
 ·rw[List.getElem?_take,if_pos h,List.getElem?_reverse (by omega)]
  simp only[cI,List.map_map,List.getElem?_map,List.getElem?_range h];simp[List.getD_eq_getElem?_getD,List.getElem?_eq_getElem (show ps.length-1-i<ps.length by omega)]
 ·rw[List.getElem?_eq_none (by simp[cI];omega),List.getElem?_eq_none (by simp;omega)]
theorem tY {ls:List B8} {ps:List Pt} {k i:Nat} {pre:List (Nat × Pt)} {p:Pt} (hk:k≤ps.length) (h:pre++[(i,p)]=cI ps k) (hp:p.at_=at_) (hn:∀ x∈pre,x.2.at_≠at_):Mx.dC ls ps at_=p.d:=by
 have h1:=congrArg (List.map Prod.snd) h;rw[m7 ps k hk,List.map_append] at h1;have h2:ps.reverse=(pre.map Prod.snd++[p])++ps.reverse.drop k:=by
  have:=List.take_append_drop k ps.reverse;rw[←h1] at this;simpa using this.symm
 unfold Mx.dC;rw[h2,List.find?_append,List.find?_append,List.find?_eq_none.2 (by
  intro q hq;obtain⟨x,hx,rfl⟩:=List.mem_map.1 hq;simpa using hn x hx)]
 simp[hp]
theorem xi {ls:List B8} {ps:List Pt} (hn:∀ x∈cI ps ps.length,x.2.at_≠at_):Mx.dC ls ps at_=ls.getD at_.toNat zB:=by
 have h1:=m7 ps ps.length (Gi _);rw[Gj (by simp)] at h1;unfold Mx.dC;rw[←h1,List.find?_eq_none.2 (by
  intro q hq;obtain⟨x,hx,rfl⟩:=List.mem_map.1 hq;simpa using hn x hx)]
def RI (w:World) (D:Array Value) (at_:Int) (pre:List (Nat × Pt)) (W:World):Prop :=
 Bx W w.heap.size D 130∧Bx W (w.heap.size+1) #[.int .i64 at_] 3∧Gr W (w.heap.size+2)∧Bx W (w.heap.size+3) #[.nilIface] 25∧Gq w W∧w.heap.size+4≤W.heap.size∧∀ x∈pre,x.2.at_≠at_
def RIc (w:World) (D:Array Value) (at_:Int) (C:Nat) (pre:List (Nat × Pt)) (W:World):Prop:=RI w D at_ pre W∧C≤W.heap.size
def RIx (w:World) (at_:Int) (c:Code) (pre:List (Nat × Pt)) (W:World):Prop :=
 c=.ret∧∃ pre' i p,pre=pre'++[(i,p)]∧p.at_=at_∧(∀ x∈pre',x.2.at_≠at_) ∧
  Gs W (w.heap.size+2) p.d∧Bx W (w.heap.size+3) #[.nilIface] 25∧Gq w W∧w.heap.size+4≤W.heap.size
def RAx (C:Nat) (T:Array Value) (x:Nat × Pt) (a':Act) (W:World):Prop :=
 ∃ g,C≤g∧Bx W g #[.int .i64 x.2.at_,.int .u8 x.2.d.z0,.int .u8 x.2.d.z1,.int .u8 x.2.d.z2,.int .u8 x.2.d.z3,.int .u8 x.2.d.z4,.int .u8 x.2.d.z5,.int .u8 x.2.d.z6,.int .u8 x.2.d.z7] 114 ∧
  a'={tmps:=((T.setIfInBounds 24 (.int .i64 (x.1:Int))).setIfInBounds 25 (.agg #[.int .i64 x.2.at_,.int .u8 x.2.d.z0,.int .u8 x.2.d.z1,.int .u8 x.2.d.z2,.int .u8 x.2.d.z3,.int .u8 x.2.d.z4,.int .u8 x.2.d.z5,.int .u8 x.2.d.z6,.int .u8 x.2.d.z7])).setIfInBounds 8 (.pointer (some ⟨g,0,none⟩)),defers:=[]}
theorem Fh (w:World) (D:Array Value) (at_:Int) (C:Nat) (hC:w.heap.size+4≤C):OwnFrom C (RI w D at_):=by
 rintro pre W W' row ⟨b0,b1,b2,b3,bb,bs,hn⟩ hg hr;have hr':∀ r,row=some r→∃ o:Obj,W.heap[r]?=some o∧o.isCells=false:=fun r e=>(hr r e).2
 exact⟨bO b0 hg hr',bO b1 hg hr',bO b2 hg hr',bO b3 hg hr',bb.grown hg (by omega) (fun k e=>by have:=(hr k e).1;omega),by have:=hg.size;omega,hn⟩
theorem DO (w:World) (D:Array Value) (at_:Int) (C:Nat) (hC:w.heap.size+4≤C):OwnFrom C (RIc w D at_ C):=fun pre W W' row h hg hr=>⟨Fh w D at_ C hC pre W W' row h.1 hg hr,Gn h.2 hg.size⟩
theorem DP (w:World) (at_:Int) (c:Code) (C:Nat) (hC:w.heap.size+4≤C):OwnFrom C (RIx w at_ c):=by
 rintro pre W W' row ⟨rfl,pre',i,p,e1,e2,e3,b2,b3,bb,bs⟩ hg hr;have hr':∀ r,row=some r→∃ o:Obj,W.heap[r]?=some o∧o.isCells=false:=fun r e=>(hr r e).2
 exact⟨rfl,pre',i,p,e1,e2,e3,bO b2 hg hr',bO b3 hg hr',bb.grown hg (by omega) (fun k e=>by have:=(hr k e).1;omega),by have:=hg.size;omega⟩
theorem DJ (C:Nat) (T:Array Value) (x:Nat × Pt) (a':Act):OwnFrom C (fun(_:Unit) W=>RAx C T x a' W):=by
 rintro _ W W' row ⟨g,h1,h2,h3⟩ hg hr;exact⟨g,h1,bO h2 hg (fun r e=>(hr r e).2),h3⟩
theorem zO {g:Operand} {assign body:Code} {Q:Exit→Act→World→Prop} {a:Act} {wl:World} (w:World) (D:Array Value) (at_:Int) (Bs cap m:Nat) (pa:Option Addr) (ps:List Pt)
 (hg:a.eval g=.func (.func 130) #[] #[.pointer (some ⟨Bs,0,none⟩)]) (hm:m≤1000) (hp:PL w pa m ps) (hb0:Gq w wl) (hBn:Bs<wl.heap.size) (hC:w.heap.size+4≤wl.heap.size)
 (hBs:wl.cell? ⟨Bs,0,none⟩=some (.slice pa m cap)) (h0:RI w D at_ [] wl)
 (hassign:∀ (l:Nat) (pre:List (Nat × Pt)) (x:Nat × Pt) (W:World) (K:Act→World→Prop),RIc w D at_ wl.heap.size pre W→(∀ a' W',KeepsFrom wl.heap.size W W'→KpS w.heap.size Bs W W'→RIc w D at_ wl.heap.size pre W'→RAx wl.heap.size a.tmps x a' W'→K a' W') →
   assign.wpIn (Fence.wide.inRound l) (6-1-1) Tryz.prog (Exit.then K (fun _ _ _=>False)) {tmps:=(a.tmps.setIfInBounds 24 (.int .i64 (x.1:Int))).setIfInBounds 25 (.agg #[.int .i64 x.2.at_,.int .u8 x.2.d.z0,.int .u8 x.2.d.z1,.int .u8 x.2.d.z2,.int .u8 x.2.d.z3,.int .u8 x.2.d.z4,.int .u8 x.2.d.z5,.int .u8 x.2.d.z6,.int .u8 x.2.d.z7]),defers:=[]} W)
 (hbody:∀ (l:Nat) (pre:List (Nat × Pt)) (x:Nat × Pt) (a':Act) (W:World),RIc w D at_ wl.heap.size pre W→RAx wl.heap.size a.tmps x a' W→pre.length<m →
   body.wpIn (Fence.wide.inRound l) (6-1-1) Tryz.prog (ownPostG wl.heap.size (KpS w.heap.size Bs) (RIc w D at_ wl.heap.size) (RIx w at_) (pre++[x]) W) a' W)
 (hdone:∀ (Dd:Nat) (W:World),wl.heap.size≤Dd→RIc w D at_ wl.heap.size (cI ps m) W→W.heap[Dd]?=some (.deferred (some []))→Q .normal {a with defers:={target:=.collected Dd,args:=#[]}::a.defers} W)
 (hstop:∀ (Dd:Nat) (pre:List (Nat × Pt)) (W:World),wl.heap.size≤Dd→(∃ k,k≤m∧pre=cI ps k)→RIx w at_ .ret pre W→W.heap[Dd]?=some (.deferred (some []))→Code.ret.wpIn Fence.wide 6 Tryz.prog Q {a with defers:={target:=.collected Dd,args:=#[]}::a.defers} W) :
 (Code.rangeFunc g #[24,25] assign body).wpIn Fence.wide 6 Tryz.prog Q a wl:=by
 refine wpIn_rangeFunc_ownH rfl (by omega) (gf:=130) (lb:=#[.pointer (some ⟨Bs,0,none⟩)]) hg trivial (enters_of Tryz.func130 (by kernel_rfl) rfl)
  (vp 5 (by omega) Bs w.heap.size cap m pa ps hm w (Gi _) hp wl hb0 hb0.size hBn hBs) Cw (nL hb0.size hBn) (Below.refl _ _) (fun _=>rfl)
  (RIc w D at_ wl.heap.size) (RIx w at_) (DO w D at_ _ hC) (fun c=>DP w at_ c _ hC) ⟨h0,Gi _⟩ (RAx wl.heap.size a.tmps) (DJ wl.heap.size a.tmps) ?_ ?_ ?_ ?_
 ·intro l pre x W K hi hK
  have h:=hassign l pre x W K hi hK;have e:(#[24,25].zip (rL x)).foldl (fun(t:Array Value) (x:Nat × Value)=>match x with|(p,v)=>t.setIfInBounds p v) a.tmps=(a.tmps.setIfInBounds 24 (.int .i64 (x.1:Int))).setIfInBounds 25 (.agg #[.int .i64 x.2.at_,.int .u8 x.2.d.z0,.int .u8 x.2.d.z1,.int .u8 x.2.d.z2,.int .u8 x.2.d.z3,.int .u8 x.2.d.z4,.int .u8 x.2.d.z5,.int .u8 x.2.d.z6,.int .u8 x.2.d.z7]):=by simp[rL]
  rw[e];exact h
 ·intro l pre x a' W _ _ hi ha hlt
  exact hbody l pre x a' W hi ha hlt
 ·rintro Dd xs W hD rfl hi hK
  exact hdone Dd W hD hi hK
 ·intro Dd c pre W hD hs hx hK
  have hc:=hx.1;subst hc;exact hstop Dd pre W hD hs hx hK
end
section
open Go.RowKit
variable {k:Nat} {x:World}
def Fj:Code→Code
 | .seq _ b => b
 | c => c
def dH:Nat→Code→Code
 | 0, c => c
 | k + 1, c => Fj (dH k c)
def aB (f:Func) (P:Ending→World→Prop) (k:Nat) (a:Act) (x:World):Prop :=
 Code.wp Tryz.prog (dH k (f.body.getD .skip)) (bodyPost Tryz.prog f P) a x
theorem aj {f:Func} {P:Ending→World→Prop} {a:Act} {s:Code} (h:dH k (f.body.getD .skip)=.seq s (dH (k+1) (f.body.getD .skip)))
 (hs:∀ K:Act→World→Prop,(∀ a' x',Met (aB f P (k+1)) a' x'→K a' x')→Code.wp Tryz.prog s (Exit.then K (bodyPost Tryz.prog f P)) a x):aB f P k a x:=by
 unfold aB;rw[h];refine wp_seq_k (fun K hK=>hs K (fun a' x' hm=>hK a' x' hm))
theorem aL {f:Func} {P:Ending→World→Prop} {a:Act} {c:Code} (h:dH k (f.body.getD .skip)=c)
 (hs:Code.wp Tryz.prog c (bodyPost Tryz.prog f P) a x):aB f P k a x:=by
 unfold aB;rw[h];exact hs
end
section
open Go.RowKit Go.Shelf
attribute [local go_sem] Oper.semAt_some
theorem vW (W:World) (g o:Nat) (x:B8):KeepsOthers W (aR W g o x) :=
 ((((((((KeepsOthers.setCell _ _ _).trans (KeepsOthers.setCell _ _ _)).trans (KeepsOthers.setCell _ _ _)).trans (KeepsOthers.setCell _ _ _)).trans (KeepsOthers.setCell _ _ _)).trans (KeepsOthers.setCell _ _ _)).trans (KeepsOthers.setCell _ _ _)).trans (KeepsOthers.setCell _ _ _))
theorem eg {W:World} {g:Nat} {a0 a1 a2 a3 a4 a5 a6 a7:Value} {t:TypeId} (h:Bx W g #[a0,a1,a2,a3,a4,a5,a6,a7] t) (x:B8):Bx (aR W g 0 x) g #[.int .u8 x.z0,.int .u8 x.z1,.int .u8 x.z2,.int .u8 x.z3,.int .u8 x.z4,.int .u8 x.z5,.int .u8 x.z6,.int .u8 x.z7] t:=by
 unfold Bx at *;unfold aR;simp[World.setCell,Array.getElem?_modify,h]
theorem RI.later {w W W':World} {D:Array Value} {at_:Int} {pre:List (Nat × Pt)} (h:RI w D at_ pre W) (hb:Gq W W'):RI w D at_ pre W':=by
 obtain⟨b0,b1,b2,b3,bb,bs,hn⟩:=h;exact⟨b0.later hb b0.lt,b1.later hb b1.lt,b2.later hb b2.lt,b3.later hb b3.lt,bb.trans (hb.mono bb.size),by have:=hb.size;omega,hn⟩
theorem RI.start (w:World) (D:Array Value) (at_:Int) (w0:World) (hw0:w0=(((w.alloc (.cells D 130)).alloc (.cells #[.int .i64 at_] 3)).alloc (.cells #[.int .u8 0,.int .u8 0,.int .u8 0,.int .u8 0,.int .u8 0,.int .u8 0,.int .u8 0,.int .u8 0] 33)).alloc (.cells #[.nilIface] 25)):RI w D at_ [] w0:=by
 subst hw0;refine⟨(((Bx.new w D 130).alloc _).alloc _).alloc _,?_,?_,?_,(((af _ _).alloc (by simp) _).alloc (by simp;omega) _).alloc (by simp;omega) _,by simp,by simp⟩
 ·have h:=((Bx.new (w.alloc (.cells D 130)) #[.int .i64 at_] 3).alloc (.cells #[.int .u8 0,.int .u8 0,.int .u8 0,.int .u8 0,.int .u8 0,.int .u8 0,.int .u8 0,.int .u8 0] 33)).alloc (.cells #[.nilIface] 25)
  rw[World.size_alloc] at h;exact h
 ·have h:=(Bx.new ((w.alloc (.cells D 130)).alloc (.cells #[.int .i64 at_] 3)) #[.int .u8 0,.int .u8 0,.int .u8 0,.int .u8 0,.int .u8 0,.int .u8 0,.int .u8 0,.int .u8 0] 33).alloc (.cells #[.nilIface] 25)
  rw[World.size_alloc,World.size_alloc] at h;exact h
 ·have h:=Bx.new (((w.alloc (.cells D 130)).alloc (.cells #[.int .i64 at_] 3)).alloc (.cells #[.int .u8 0,.int .u8 0,.int .u8 0,.int .u8 0,.int .u8 0,.int .u8 0,.int .u8 0,.int .u8 0] 33)) #[.nilIface] 25
  rw[World.size_alloc,World.size_alloc,World.size_alloc] at h;exact h
theorem kK (sa pa:Option Addr) (n sc m pc:Nat) (left at_:Int) (ls:List B8) (ps:List Pt) (w:World) (hs:BL w sa n ls) (hp:PL w pa m ps) (hm:Mx.iy n ps left at_=0) (x:B8) (hx:x=Mx.dC ls ps at_) :
 Calls Tryz.prog 58 #[.agg #[.slice sa n sc,.slice pa m pc,.int .i64 left],.int .i64 at_] w fun e w' =>
  e=.returned (.tuple #[.agg #[.int .u8 x.z0,.int .u8 x.z1,.int .u8 x.z2,.int .u8 x.z3,.int .u8 x.z4,.int .u8 x.z5,.int .u8 x.z6,.int .u8 x.z7],.nilIface])∧Gq w w':=by
 obtain⟨hpl,hleft⟩:Hid (Mx.bR n ps at_=0)∧¬left=0:=by
  unfold Mx.iy at hm;split at hm
  ·rename_i h1
   split at hm
   ·omega
   ·rename_i h2
    exact⟨h1,h2⟩
  ·contradiction
 obtain⟨hn1,hm8,hat0,hat1⟩:n≤200∧m≤800∧0≤at_∧at_<n:=by
  have h:=hpl.o;unfold Mx.bR at h;split at h
  ·rename_i h1
   obtain⟨_,h3,h4,_⟩:=Mx.ix h1;split at h
   ·rename_i h2
    exact⟨h3,by rw[←hp.1];exact h4,h2.1,h2.2⟩
   ·omega
  ·contradiction
 have HS:=aa hs;have HP:=aa hp;have HX:=aa hx;have HPL:=aa hp.1;have HNN:=aa (show n≤maxLen from hs.2.2.1);clear hs hp hm hx;have hle:(left==0)=false:=by simpa using hleft
 refine(callsIn_wide (n:=6)).1 ?_;refine callsIn_of_wp_marks Tryz.func58 rfl trivial ?_ rfl;simp only[Tryz.ntmps58,List.size_toArray,List.length_cons,List.length_nil,Nat.reduceAdd,Nat.reduceSub,Array.replicate_succ,Array.replicate_zero,List.push_toArray,List.append_toArray,List.nil_append,List.cons_append];gi_wp2_with fail;refine⟨trivial,?_⟩;obtain⟨w0,hw0⟩:∃ w0:World,Hid (w0=(((w.alloc (.cells #[.slice sa n sc,.slice pa m pc,.int .i64 left] 130)).alloc (.cells #[.int .i64 at_] 3)).alloc (.cells #[.int .u8 0,.int .u8 0,.int .u8 0,.int .u8 0,.int .u8 0,.int .u8 0,.int .u8 0,.int .u8 0] 33)).alloc (.cells #[.nilIface] 25)):=⟨_,rfl⟩
 have HR0:=aa (RI.start w #[.slice sa n sc,.slice pa m pc,.int .i64 left] at_ w0 hw0.o);rw[←hw0.o];refine(callsIn_wide.2 (gN sa pa n sc m pc left at_ ps w0 (HP.o.later HR0.o.2.2.2.2.1) HNN.o)).mono ?_;rintro e w1 ⟨rfl,hb1⟩;rw[hpl.o,aG];have HR1:=aa (HR0.o.later hb1);clear hb1;obtain⟨f0,f1,f2⟩:=HR1.o.1.three;have hsz:=HR1.o.2.2.2.2.2.1;gi_wp2_with fail;refine⟨trivial,?_⟩;refine(ts 5 pa m pc w1).mono ?_;rintro e w2 ⟨rfl,rfl⟩;gi_wp2_with fail;have HRL:=aa (HR1.o.later (af w1 (.cells #[.slice pa m pc] 98)));refine zO w #[.slice sa n sc,.slice pa m pc,.int .i64 left] at_ w1.heap.size pc m pa ps rfl (by omega) HP.o HRL.o.2.2.2.2.1 (by simp) HRL.o.2.2.2.2.2.1 ?hBs HRL.o ?assign ?body ?done ?stop;case hBs=>rw[World.cell?_alloc_new];rfl
 case assign =>
  intro lp pre x W K hi hK;simp only[List.setIfInBounds_toArray,List.set_cons_succ,List.set_cons_zero];gi_wp2
  have hsW:w1.heap.size+1≤W.heap.size:=by have:=hi.2;simpa using this
  exact hK _ _ ((KeepsOthers.alloc _ _).from _) ⟨(Below.refl _ _).alloc (by omega) _,Below.heap_alloc W _ _ (by omega)⟩ ⟨hi.1.later (af _ _),by simp;omega⟩ ⟨W.heap.size,by simpa using hsW,heap_alloc_new W _,rfl⟩
 case body =>
  rintro lp pre ⟨i,p⟩ a' W ⟨hi,hsW⟩ ⟨gx,hgx,hbx,rfl⟩ hlt;have HI:=aa hi;have HSW:=aa hsW;obtain⟨d0,d1,d2⟩:=hi.1.three;have at0:=hi.2.1.cell 0;obtain⟨y0,y1,y2,y3,y4,y5,y6,y7⟩:=(show Gs W (w.heap.size+2) zB from hi.2.2.1).eight;have yz:=hi.2.2.1.frozen;have v0:=hi.2.2.2.1.cell 0;have vz:=hi.2.2.2.1.frozen;have x0:=hbx.cell 0;have x1:=hbx.cell 1;have x2:=hbx.cell 2;have x3:=hbx.cell 3;have x4:=hbx.cell 4;have x5:=hbx.cell 5;have x6:=hbx.cell 6;have x7:=hbx.cell 7;have x8:=hbx.cell 8;have hgw:w1.heap.size+1≤gx:=by simpa using hgx
  have HBX:=aa hbx;clear hi hsW hbx hgx;simp only[List.setIfInBounds_toArray,List.set_cons_succ,List.set_cons_zero] at at0 v0 x0 x1 x2 x3 x4 x5 x6 x7 x8 ⊢;by_cases hpe:p.at_=at_
  ·have hpe2:(p.at_==at_)=true:=by simpa using hpe
   have HPE:=aa hpe;clear hpe;gi_wp2_with fail;show KeepsFrom _ W ((aR W (w.heap.size+2) 0 p.d).setCell ⟨w.heap.size+3,0,none⟩ .nilIface)∧RIx w at_ .ret (pre++[(i,p)]) ((aR W (w.heap.size+2) 0 p.d).setCell ⟨w.heap.size+3,0,none⟩ .nilIface)
   obtain⟨b0,b1,b2,b3,bb,bs,hn⟩:=HI.o;refine⟨((vW _ _ _ _).trans (KeepsOthers.setCell _ _ _)).from _,rfl,pre,i,p,rfl,HPE.o,hn,(eg b2 p.d).other _ _ (by show w.heap.size+2≠w.heap.size+3;omega),(Bx.aR b3 (by omega) 0 p.d).set 0 .nilIface,(bP bb (by omega) 0 p.d).setCell (p:=⟨w.heap.size+3,0,none⟩) (by show w.heap.size≤w.heap.size+3;omega) _,?_⟩;simp[aR,World.setCell];omega
  ·have hpe2:(p.at_==at_)=false:=by simpa using hpe
   have HPE:=aa hpe;clear hpe;gi_wp2
   refine⟨(KeepsOthers.refl _).from _,⟨Below.refl _ _,rfl⟩,⟨HI.o.1,HI.o.2.1,HI.o.2.2.1,HI.o.2.2.2.1,HI.o.2.2.2.2.1,HI.o.2.2.2.2.2.1,?_⟩,by have:=HSW.o;simpa using this⟩;intro z hz;rcases List.mem_append.1 hz with h|h
   ·exact HI.o.2.2.2.2.2.2 z h
   ·simp at h
    subst h;exact HPE.o
 case done =>
  intro Dd W hD hi hK;have HI:=aa hi.1;have HK:=aa hK;have hD':w1.heap.size+1≤Dd:=by simpa using hD
  obtain⟨d0,d1,d2⟩:=hi.1.1.three;have at0:=hi.1.2.1.cell 0;obtain⟨y0,y1,y2,y3,y4,y5,y6,y7⟩:=(show Gs W (w.heap.size+2) zB from hi.1.2.2.1).eight;have yz:=hi.1.2.2.1.frozen;have v0:=hi.1.2.2.2.1.cell 0;have vz:=hi.1.2.2.2.1.frozen;clear hi hK hD;obtain⟨j,hj⟩:=Int.eq_ofNat_of_zero_le hat0;obtain⟨b,off,z,hsa,hb,hz,c0,c1,c2,c3,c4,c5,c6,c7⟩:=(HS.o.later HI.o.2.2.2.2.1).at_ j (by omega);subst hsa;have HZ:=aa (show x=z by
   rw[HX.o,xi (by rw[HPL.o];exact HI.o.2.2.2.2.2.2),hj,Int.toNat_natCast,Ga,hz];rfl)
  have hjn:(j:Int)<n:=by omega
  subst hj;clear hz;simp only[Gd,Gb] at at0 v0;gi_wp2
  show bodyPostM Fence.wide 6 Tryz.prog Tryz.f58 _ Exit.ret _ ((aR W (w.heap.size+2) 0 z).setCell ⟨w.heap.size+3,0,none⟩ .nilIface)
  obtain⟨WF,hWF⟩:∃ WF:World,Hid (WF=(aR W (w.heap.size+2) 0 z).setCell ⟨w.heap.size+3,0,none⟩ .nilIface):=⟨_,rfl⟩
  rw[←hWF.o];obtain⟨b0,b1,b2,b3,bb,bs,hn⟩:=HI.o;have B2:Gs WF (w.heap.size+2) z:=by rw[hWF.o];exact(eg b2 z).other _ _ (by show w.heap.size+2≠w.heap.size+3;omega)
  have B3:Bx WF (w.heap.size+3) #[.nilIface] 25:=by rw[hWF.o];exact(Bx.aR b3 (by omega) 0 z).set 0 .nilIface
  have BB:Gq w WF:=by rw[hWF.o];exact(bP bb (by omega) 0 z).setCell (p:=⟨w.heap.size+3,0,none⟩) (by show w.heap.size≤w.heap.size+3;omega) _
  have hKf:WF.heap[Dd]?=some (.deferred (some [])):=by
   rw[hWF.o,Below.heap_setCell _ _ _ _ (by show Dd≠w.heap.size+3;omega),oy (by omega)];exact HK.o
  have hgO:=grownBy_putObj' WF Dd (.deferred none);have hrO:∀ r,some Dd=some r→∃ o:Obj,WF.heap[r]?=some o∧o.isCells=false:=fun r e=>by cases e;exact⟨_,hKf,rfl⟩
  have hb2:Gs (WF.putObj Dd (.deferred none)) (w.heap.size+2) z:=bO B2 hgO hrO;have hb3:Bx (WF.putObj Dd (.deferred none)) (w.heap.size+3) #[.nilIface] 25:=bO B3 hgO hrO;have hbl:=BB.grown hgO BB.size (fun k e=>by cases e;omega);refine⟨by simp,.inl ⟨_,_,rfl,run_takeDeferred hKf,?_⟩⟩;generalize WF.putObj Dd (.deferred none)=WG at *;obtain⟨q0,q1,q2,q3,q4,q5,q6,q7⟩:=hb2.eight;have qv:=hb3.cell 0;simp only[Gd,Gb] at qv;exact⟨.tuple #[.agg #[.int .u8 z.z0,.int .u8 z.z1,.int .u8 z.z2,.int .u8 z.z3,.int .u8 z.z4,.int .u8 z.z5,.int .u8 z.z6,.int .u8 z.z7],.nilIface],by simp[results,Tryz.results58,go_sem,q0,q1,q2,q3,q4,q5,q6,q7,qv],by rw[HZ.o],hbl⟩
 case stop =>
  rintro Dd pre W hD ⟨k,hk,rfl⟩ ⟨_,pre',i,p,e1,e2,e3,b2,b3,bb,bs⟩ hK;have hD':w1.heap.size+1≤Dd:=by simpa using hD
  have HZ:=aa (show x=p.d by rw[HX.o,tY (by rw[HPL.o];exact hk) e1.symm e2 e3]);have hgO:=grownBy_putObj' W Dd (.deferred none);have hrO:∀ r,some Dd=some r→∃ o:Obj,W.heap[r]?=some o∧o.isCells=false:=fun r e=>by cases e;exact⟨_,hK,rfl⟩
  have hb2:Gs (W.putObj Dd (.deferred none)) (w.heap.size+2) p.d:=bO b2 hgO hrO;have hb3:Bx (W.putObj Dd (.deferred none)) (w.heap.size+3) #[.nilIface] 25:=bO b3 hgO hrO;have hbl:=bb.grown hgO bb.size (fun k e=>by cases e;omega);gi_wp2
  refine⟨by simp,.inl ⟨_,_,rfl,run_takeDeferred hK,?_⟩⟩;generalize W.putObj Dd (.deferred none)=WG at *;obtain⟨q0,q1,q2,q3,q4,q5,q6,q7⟩:=hb2.eight;have qv:=hb3.cell 0;simp only[Gd,Gb] at qv;exact⟨.tuple #[.agg #[.int .u8 p.d.z0,.int .u8 p.d.z1,.int .u8 p.d.z2,.int .u8 p.d.z3,.int .u8 p.d.z4,.int .u8 p.d.z5,.int .u8 p.d.z6,.int .u8 p.d.z7],.nilIface],by simp[results,Tryz.results58,go_sem,q0,q1,q2,q3,q4,q5,q6,q7,qv],by rw[HZ.o],hbl⟩
end
section
open Go.RowKit
namespace Mx
def cg (n:Nat) (ps:List Pt) (left at_:Int):Int:=if bR n ps at_=0 then (if ps.length=800 then 2 else if left=0 then 4 else 0) else bR n ps at_
end Mx
theorem qA (sa pa:Option Addr) (n sc m pc:Nat) (left at_:Int) (x:B8) (ls:List B8) (ps:List Pt) (w:World) (hs:BL w sa n ls) (hp:PL w pa m ps) (hl1:-9223372036854775808≤left) (hl2:left≤9223372036854775807) (hm:Mx.cg n ps left at_=0) :
 Calls Tryz.prog 109 #[.agg #[.slice sa n sc,.slice pa m pc,.int .i64 left],.int .i64 at_,.agg #[.int .u8 x.z0,.int .u8 x.z1,.int .u8 x.z2,.int .u8 x.z3,.int .u8 x.z4,.int .u8 x.z5,.int .u8 x.z6,.int .u8 x.z7]] w fun e w' =>
  ∃ v1 v2,e=.returned (.tuple #[.agg #[v1,v2,.int .i64 (Mx.less left)],.nilIface])∧au w' w.heap.size v1 ls∧bg w' w.heap.size v2 (ps++[⟨at_,x⟩])∧Gq w w':=by
 have HS:=aa hs;have HP:=aa hp;have HM:=aa hm;have HNN:=aa (show n≤maxLen from hs.2.2.1);have HL:=aa (And.intro hl1 hl2);clear hs hp hm hl1 hl2;obtain⟨hpl,h8,hleft⟩:Hid (Mx.bR n ps at_=0)∧¬ps.length=800∧¬left=0:=by
  have h:=HM.o;unfold Mx.cg at h;split at h
  ·rename_i h1
   split at h
   ·omega
   ·rename_i h2
    split at h
    ·omega
    ·rename_i h3
     exact⟨h1,h2,h3⟩
  ·contradiction
 have hn1:Hid (n≤200∧m≤800):=by
  have h:=hpl.o;unfold Mx.bR at h;split at h
  ·rename_i h1
   obtain⟨_,h3,h4,_⟩:=Mx.ix h1;exact⟨h3,by rw[←HP.o.1];exact h4⟩
  ·contradiction
 have hm8:¬m=800:=by rw[←HP.o.1];exact h8
 clear h8;have hnm:=hn1.o;have hme:((m:Int)==800)=false:=by simp;omega
 have hle:(left==0)=false:=by simpa using hleft
 go_enter Tryz.func109,Tryz.ntmps109;go_wp2_with fail;refine(gN sa pa n sc m pc left at_ ps _ (HP.o.later (((af _ _).alloc (by simp) _).alloc (by simp;omega) _)) HNN.o).mono ?_;rintro e w1 ⟨rfl,hb1⟩;rw[hpl.o,aG];have HBD:=aa (show Bx w1 w.heap.size #[.slice sa n sc,.slice pa m pc,.int .i64 left] 130 from(((Bx.new w _ 130).alloc _).alloc _).later hb1 (by simp;omega));have HBX:=aa (show Gs w1 (w.heap.size+1) x from by
  have h:=((Bx.new (w.alloc (.cells #[.slice sa n sc,.slice pa m pc,.int .i64 left] 130)) #[.int .u8 x.z0,.int .u8 x.z1,.int .u8 x.z2,.int .u8 x.z3,.int .u8 x.z4,.int .u8 x.z5,.int .u8 x.z6,.int .u8 x.z7] 33).alloc (.cells #[.slice none 0 0,.slice none 0 0,.int .i64 0] 130)).later hb1 (by simp);rw[World.size_alloc] at h;exact h)
 have HBR:=aa (show Bx w1 (w.heap.size+2) #[.slice none 0 0,.slice none 0 0,.int .i64 0] 130 from by
  have h:=(Bx.new ((w.alloc (.cells #[.slice sa n sc,.slice pa m pc,.int .i64 left] 130)).alloc (.cells #[.int .u8 x.z0,.int .u8 x.z1,.int .u8 x.z2,.int .u8 x.z3,.int .u8 x.z4,.int .u8 x.z5,.int .u8 x.z6,.int .u8 x.z7] 33)) #[.slice none 0 0,.slice none 0 0,.int .i64 0] 130).later hb1 (by simp);rw[World.size_alloc,World.size_alloc] at h;exact h)
 have HBel:=aa ((((af w (.cells #[.slice sa n sc,.slice pa m pc,.int .i64 left] 130)).alloc (by simp) _).alloc (by simp;omega) _).trans (hb1.mono (by simp;omega)));have hsz:w.heap.size+3≤w1.heap.size:=by have:=hb1.size;simp at this;omega
 clear hb1;have HS1:=aa (HS.o.later HBel.o);have HP1:=aa (HP.o.later HBel.o);obtain⟨f0,f1,f2⟩:=HBD.o.three;have hg1:w.heap.size<w1.heap.size:=by omega
 have HN6:=aa (show n≤1000000∧m≤1000000 by omega);go_wp2_with fail;go_cut [9] (fun s9 wx=>∃ gn a1 c1 a2 c2,s9=.pointer (some ⟨gn,0,none⟩)∧Hid (Made w1 wx gn (.slice a1 n c1) (.slice a2 m c2) (.int .i64 (Mx.less left)) ls ps))
 case first =>
  go_region_held (fun w'=>w'.cell? ⟨w.heap.size,0,none⟩=some (.slice sa n sc)∧w'.cell? ⟨w.heap.size,1,none⟩=some (.slice pa m pc)∧w'.cell? ⟨w.heap.size,2,none⟩=some (.int .i64 left)∧Gq w1 w')
   (first|exact cF.drew HBD.o|exact cF.of HBD.o hbB.o.1|exact cF.of HBD.o hbP.o.1|assumption|(refine cF.alloc HBD.o ?_ _;assumption)|exact cF.of HBD.o (hbP.o.1.alloc hbP.o.1.size _)|exact cF.of HBD.o (hbB.o.1.alloc hbB.o.1.size _)|exact cF.of HBD.o ((Below.refl _ _).drew.alloc (Gi _) _)|(refine cF.set HBD.o (cF.set HBD.o (cF.set HBD.o ?_ _ ?_ _) _ ?_ _) _ ?_ _<;>assumption))
   (first
   |(go_at_call 95;refine(iw (w1:=w1) sa n sc ls _ HS1.o HN6.o.1 HBD.o (Bx.new _ _ _) ?hge ?hbS).mono ?_;(case hge=>first|exact Gi _|exact hbP.o.1.size);(case hbS=>simp only[*]);rintro e wB ⟨a1,c1,rfl,hoB,hbB,⟨q0,q1,q2,q3,q4⟩,hxB,hgB,r0,r1,r2,r3,r4⟩)
   |(go_at_call 95;refine(iw (w1:=w1) sa n sc ls _ HS1.o HN6.o.1 HBD.o (Bx.dj _ _ _) ?hge ?hbS).mono ?_;(case hge=>first|exact Gi _|exact hbP.o.1.size);(case hbS=>simp only[*]);rintro e wB ⟨a1,c1,rfl,hoB,hbB,⟨q0,q1,q2,q3,q4⟩,hxB,hgB,r0,r1,r2,r3,r4⟩)
   |(go_at_call 95;refine(iw (w1:=w1) sa n sc ls _ HS1.o HN6.o.1 HBD.o hxP.o hgP ?hbS).mono ?_;(case hbS=>simp only[*]);rintro e wB ⟨a1,c1,rfl,hoB,hbB,⟨q0,q1,q2,q3,q4⟩,hxB,hgB,r0,r1,r2,r3,r4⟩)
   |(go_at_call 95;refine(lj (w1:=w1) sa n sc ls _ HS1.o HN6.o.1 HBD.o ?hbS).mono ?_;(case hbS=>simp only[*]);rintro e wB ⟨a1,c1,rfl,hoB,hbB,q0,q1,q2,q3,q4⟩)
   |(go_at_call 72;refine(kq (w1:=w1) pa m pc ps _ HP1.o HN6.o.2 HBD.o (Bx.new _ _ _) ?hge ?hbS).mono ?_;(case hge=>first|exact Gi _|exact hbB.o.1.size);(case hbS=>simp only[*]);rintro e wP ⟨a2,c2,rfl,hoP,hbP,⟨q0,q1,q2,q3,q4⟩,hxP,hgP,r0,r1,r2,r3,r4⟩)
   |(go_at_call 72;refine(kq (w1:=w1) pa m pc ps _ HP1.o HN6.o.2 HBD.o (Bx.dj _ _ _) ?hge ?hbS).mono ?_;(case hge=>first|exact Gi _|exact hbB.o.1.size);(case hbS=>simp only[*]);rintro e wP ⟨a2,c2,rfl,hoP,hbP,⟨q0,q1,q2,q3,q4⟩,hxP,hgP,r0,r1,r2,r3,r4⟩)
   |(go_at_call 72;refine(kq (w1:=w1) pa m pc ps _ HP1.o HN6.o.2 HBD.o hxB.o hgB ?hbS).mono ?_;(case hbS=>simp only[*]);rintro e wP ⟨a2,c2,rfl,hoP,hbP,⟨q0,q1,q2,q3,q4⟩,hxP,hgP,r0,r1,r2,r3,r4⟩)
   |(go_at_call 72;refine(po (w1:=w1) pa m pc ps _ HP1.o HN6.o.2 HBD.o ?hbS).mono ?_;(case hbS=>simp only[*]);rintro e wP ⟨a2,c2,rfl,hoP,hbP,q0,q1,q2,q3,q4⟩)
   |(go_at_call 131;refine(mi left _ HL.o.1 HL.o.2).mono ?_;rintro e wL ⟨rfl,rfl⟩))
  all_goals go_wp2_with fail
  all_goals go_meet
  all_goals first
   | exact ⟨_, _, _, _, _, rfl, Fy (W := w1.drew) (Gi _) hoB.o hoP.o hbP.o hbB.o⟩
   | exact ⟨_, _, _, _, _, rfl, Fz (W := w1.drew) (Gi _) hoB.o hbB.o hoP.o hbP.o⟩
   | exact ⟨_, _, _, _, _, rfl, FC hoB.o hbB.o hoP.o hbP.o⟩
 case rest =>
 obtain⟨gn,a1,c1,a2,c2,rfl,hmd⟩:=hcut;obtain⟨b0,b1,b2⟩:=hmd.o.1.three;have bz:=hmd.o.1.frozen;have bl:=hmd.o.1.lt;obtain⟨x0,x1,x2,x3,x4,x5,x6,x7⟩:=(HBX.o.later hmd.o.2.2.2.1 (by omega)).eight;have HPL:=aa (show ps.length=m from HP.o.1);have HMS:=aa hmd.o.2.2.2.1.size;have hgn:¬gn=w.heap.size+2:=by have:=hmd.o.2.2.2.2.1;omega
 go_wp2_with (at_builtin;refine eA (w:=wc) rfl _ _ rfl w1.heap.size ps ?c0 ⟨at_,x⟩ ?c1 ?c2 ?c3 ?_);case c0=>exact hmd.o.2.2.1
 case c1=>rfl
 case c2=>rw[HPL.o];exact HN6.o.2
 case c3=>exact HMS.o
 intro ad cc w2 hown2 hg2;obtain⟨hOP,hG⟩:Hid (bg w2 w1.heap.size (.slice (some ad) (m+1) cc) (ps++[⟨at_,x⟩]))∧Hid (wc.grownBy w2 (Value.slice a2 m c2).ownBlock):=by
  rw[HPL.o] at hown2;exact⟨hown2,hg2⟩
 rw[HPL.o];clear hown2 hg2;have HB2:=aa (show Bx w2 gn #[.slice a1 n c1,.slice a2 m c2,.int .i64 (Mx.less left)] 130 from(hG.o.block gn bl (fun e=>hmd.o.2.2.2.2.2.2.1 e.symm)).trans hmd.o.1);have HW2:=aa (show Gq w1 w2 from hmd.o.2.2.2.1.grown hG.o HMS.o (fun k hk=>(World.ownsRow.lt hmd.o.2.2.1 k hk).1));have HO2:=aa (show au w2 w1.heap.size (.slice a1 n c1) ls from World.ownsRow.kept hmd.o.2.1 hG.o (by
  rcases hb:(Value.slice a1 n c1).ownBlock with _|g
  ·exact .inl rfl
  ·exact .inr (fun e=>hmd.o.2.2.2.2.2.2.2 g hb e.symm)))
 have HR2:=aa (HBR.o.later HW2.o (by omega));obtain⟨d0,d1,d2⟩:=HB2.o.three;have dz:=HB2.o.frozen;obtain⟨e0,e1,e2⟩:=HR2.o.three;have ez:=HR2.o.frozen;have hl2:w.heap.size+2<w2.heap.size:=HR2.o.lt;clear b0 b1 b2 bz bl x0 x1 x2 x3 x4 x5 x6 x7 f0 f1 f2;go_wp2_with fail;have HBF:=aa (((HR2.o.other ⟨gn,1,none⟩ (.slice (some ad) (m+1) cc) (fun e=>hgn e.symm)).set 0 (.slice a1 n c1)).set 1 (.slice (some ad) (m+1) cc) |>.set 2 (.int .i64 (Mx.less left)));obtain⟨r0,r1,r2⟩:=(show Bx _ _ #[.slice a1 n c1,.slice (some ad) (m+1) cc,.int .i64 (Mx.less left)] 130 from HBF.o).three;refine bodyPost_ret (v:=.tuple #[.agg #[.slice a1 n c1,.slice (some ad) (m+1) cc,.int .i64 (Mx.less left)],.nilIface]) (by simp[results,Tryz.results109,go_sem,r0,r1,r2]) rfl ⟨_,_,rfl,?_,?_,?_⟩
 ·have k1:=aX HO2.o HB2.o (by decide)
  have k2:=aX HO2.o HR2.o (by decide);exact World.ownsRow.mono (az (az (az (az HO2.o _ _ k1) _ _ k2) _ _ k2) _ _ k2) HBel.o.size
 ·have k1:=aX hOP.o HB2.o (by decide)
  have k2:=aX hOP.o HR2.o (by decide);have h:=World.ownsRow.mono (az (az (az (az hOP.o ⟨gn,1,none⟩ (.slice (some ad) (m+1) cc) k1) ⟨w.heap.size+2,0,none⟩ (.slice a1 n c1) k2) ⟨w.heap.size+2,1,none⟩ (.slice (some ad) (m+1) cc) k2) ⟨w.heap.size+2,2,none⟩ (.int .i64 (Mx.less left)) k2) HBel.o.size;exact h
 ·have hb:=HBel.o.trans (HW2.o.mono HBel.o.size)
  have g1:w.heap.size≤gn:=by have:=hmd.o.2.2.2.2.1;omega
  exact(((hb.setCell (p:=⟨gn,1,none⟩) g1 _).setCell (p:=⟨w.heap.size+2,0,none⟩) (by simp) _).setCell (p:=⟨w.heap.size+2,1,none⟩) (by simp) _).setCell (p:=⟨w.heap.size+2,2,none⟩) (by simp) _
theorem qB (sa pa:Option Addr) (n sc m pc:Nat) (left at_:Int) (x:B8) (ps:List Pt) (w:World) (hn:n≤maxLen) (hp:PL w pa m ps) (hm:¬Mx.cg n ps left at_=0) :
 Calls Tryz.prog 109 #[.agg #[.slice sa n sc,.slice pa m pc,.int .i64 left],.int .i64 at_,.agg #[.int .u8 x.z0,.int .u8 x.z1,.int .u8 x.z2,.int .u8 x.z3,.int .u8 x.z4,.int .u8 x.z5,.int .u8 x.z6,.int .u8 x.z7]] w fun e w' =>
  e=.returned (.tuple #[.agg #[.slice none 0 0,.slice none 0 0,.int .i64 0],bt (Mx.cg n ps left at_)])∧Gq w w':=by
 have HP:=aa hp;have HM:=aa hm;have HNN:=aa hn;have HML:=aa (show m≤maxLen from hp.2.2.1);clear hp hm hn;go_enter Tryz.func109,Tryz.ntmps109;go_wp2_with fail;refine(gN sa pa n sc m pc left at_ ps _ (HP.o.later (((af _ _).alloc (by simp) _).alloc (by simp;omega) _)) HNN.o).mono ?_;rintro e w1 ⟨rfl,hb1⟩;have HBD:=aa (show Bx w1 w.heap.size #[.slice sa n sc,.slice pa m pc,.int .i64 left] 130 from(((Bx.new w _ 130).alloc _).alloc _).later hb1 (by simp;omega));have HBR:=aa (show Bx w1 (w.heap.size+2) #[.slice none 0 0,.slice none 0 0,.int .i64 0] 130 from by
  have h:=(Bx.new ((w.alloc (.cells #[.slice sa n sc,.slice pa m pc,.int .i64 left] 130)).alloc (.cells #[.int .u8 x.z0,.int .u8 x.z1,.int .u8 x.z2,.int .u8 x.z3,.int .u8 x.z4,.int .u8 x.z5,.int .u8 x.z6,.int .u8 x.z7] 33)) #[.slice none 0 0,.slice none 0 0,.int .i64 0] 130).later hb1 (by simp);rw[World.size_alloc,World.size_alloc] at h;exact h)
 have HBel:=aa ((((af w (.cells #[.slice sa n sc,.slice pa m pc,.int .i64 left] 130)).alloc (by simp) _).alloc (by simp;omega) _).trans (hb1.mono (by simp;omega)));clear hb1;obtain⟨f0,f1,f2⟩:=HBD.o.three;obtain⟨e0,e1,e2⟩:=HBR.o.three;have ez:=HBR.o.frozen;obtain⟨r0,r1,r2⟩:=(show Bx _ _ #[.slice none 0 0,.slice none 0 0,.int .i64 0] 130 from(((HBR.o.set 0 (.slice none 0 0)).set 1 (.slice none 0 0)).set 2 (.int .i64 0))).three;have HBF:=aa (((HBel.o.setCell (p:=⟨w.heap.size+2,0,none⟩) (by simp) (.slice none 0 0)).setCell (p:=⟨w.heap.size+2,1,none⟩) (by simp) (.slice none 0 0)).setCell (p:=⟨w.heap.size+2,2,none⟩) (by simp) (.int .i64 0));by_cases hpl:Mx.bR n ps at_=0
 ·have HPL:=aa hpl
  rw[hpl,aG];clear hpl;by_cases h8:(m:Int)=800
  ·have HE:=aa (show Mx.cg n ps left at_=2 by unfold Mx.cg;rw[if_pos HPL.o,if_pos (by rw[HP.o.1];omega)])
   have hme:((m:Int)==800)=true:=by simpa using h8
   clear h8;go_wp2_with fail;exact bodyPost_ret (v:=.tuple #[.agg #[.slice none 0 0,.slice none 0 0,.int .i64 0],.iface 28 (.int .i64 2)]) (by simp[results,Tryz.results109,go_sem,r0,r1,r2]) rfl ⟨by rw[HE.o];rfl,HBF.o⟩
  ·have hme:((m:Int)==800)=false:=by simpa using h8
   by_cases hl:left=0
   ·have HE:=aa (show Mx.cg n ps left at_=4 by unfold Mx.cg;rw[if_pos HPL.o,if_neg (by rw[HP.o.1];omega),if_pos hl])
    have hle:(left==0)=true:=by simpa using hl
    clear h8 hl;go_wp2_with fail;exact bodyPost_ret (v:=.tuple #[.agg #[.slice none 0 0,.slice none 0 0,.int .i64 0],.iface 28 (.int .i64 4)]) (by simp[results,Tryz.results109,go_sem,r0,r1,r2]) rfl ⟨by rw[HE.o];rfl,HBF.o⟩
   ·exact absurd (show Mx.cg n ps left at_=0 by unfold Mx.cg;rw[if_pos HPL.o,if_neg (by rw[HP.o.1];omega),if_neg hl]) HM.o
 ·have HE:=aa (show Mx.cg n ps left at_=Mx.bR n ps at_ by unfold Mx.cg;rw[if_neg hpl])
  rw[aZ hpl];have HPL:=aa hpl;clear hpl;go_wp2_with fail;exact bodyPost_ret (v:=.tuple #[.agg #[.slice none 0 0,.slice none 0 0,.int .i64 0],.iface 28 (.int .i64 (Mx.bR n ps at_))]) (by simp[results,Tryz.results109,go_sem,r0,r1,r2]) rfl ⟨by rw[HE.o,aZ HPL.o],HBF.o⟩
end
section
open Go.RowKit
variable {w w':World} {g:Nat} {t:TypeId}
theorem Bx.grow {row:Option Nat} {cs:Array Value} (h:Bx w g cs t) (hg:w.grownBy w' row) (hne:some g≠row):Bx w' g cs t:=(hg.block g h.lt hne).trans h
theorem aM {v:World} {y:Nat} (hb:Gq w v) (hg:v.grownBy w' (some y)) (hy:w.heap.size≤y):Gq w w' :=
 ⟨hg.os.trans hb.os,hg.tape.trans hb.tape,hg.output.trans hb.output,Gn hb.size hg.size,fun k hk =>
  (hg.block k (Gf hk hb.size) (fun e=>absurd (Gg e) (by omega))).trans (hb.block k hk)⟩
end
section
open Go.RowKit
namespace Mx
def cV (q:Pk):Int:=(q.at_*4+q.kind)*32+q.from_
def QW (q:Pk):Prop:=0≤q.at_∧q.at_<32∧0≤q.kind∧q.kind<4∧0≤q.from_∧q.from_<32∧(q.kind≠3→q.d=zB)
def oF (x:Int) (d:B8):Pk:=⟨x/32/4,x/32%4,x%32,d⟩
def fV:List Int→List B8→Option (List Pk)
 | [], _ => some []
 | x :: xs, bs => if x / 32 % 4 = 3 then (bs.head?.bind (fun b => (fV xs bs.tail).map (oF x b :: ·))) else (fV xs bs).map (oF x zB :: ·)
def bH (qs:List Pk):List B8:=(qs.filter (fun q=>decide (q.kind=3))).map (·.d)
theorem uC:∀ (qs:List Pk),(∀ q∈qs,QW q)→fV (qs.map cV) (bH qs)=some qs
 | [], _ => rfl
 | q :: qs, h => by
  have hq:=h q (List.mem_cons_self ..);have ih:=uC qs (fun x hx=>h x (List.mem_cons_of_mem _ hx));obtain⟨h1,h2,h3,h4,h5,h6,h7⟩:=hq;have e1:cV q/32/4=q.at_:=by unfold cV;omega
  have e2:cV q/32%4=q.kind:=by unfold cV;omega
  have e3:cV q%32=q.from_:=by unfold cV;omega
  rw[List.map_cons,fV,e2];by_cases hk:q.kind=3
  ·rw[if_pos hk]
   have hl:bH (q::qs)=q.d::bH qs:=by unfold bH;rw[List.filter_cons_of_pos (by simpa using hk),List.map_cons]
   rw[hl];show(fV (qs.map cV) (bH qs)).map _=_
   rw[ih,Option.map_some];unfold oF;rw[e1,e2,e3]
  ·rw[if_neg hk]
   have hl:bH (q::qs)=bH qs:=by unfold bH;rw[List.filter_cons_of_neg (by simpa using hk)]
   rw[hl,ih,Option.map_some];unfold oF;rw[e1,e2,e3,←h7 hk]
theorem lV {q:Pk} (h:QW q):0≤cV q∧cV q<4096:=by
 obtain⟨h1,h2,h3,h4,h5,h6,_⟩:=h;unfold cV;omega
theorem sg (qs:List Pk):(bH qs).length≤qs.length:=by unfold bH;rw[List.length_map];exact List.length_filter_le _ _
structure Upd where
 from_:Int
 to_:Int
 qs:List Pk
def Upd.al (u:Upd):List Int:=u.from_::u.to_::u.qs.map cV
def bU (l:List Int):List (List Int):=(List.range ((l.length+8)/9)).map (fun i=>(l.drop (i*9)).take 9)
theorem tP (l:List Int):(bU l).flatten=l:=by
 have key:∀ (k:Nat),((List.range k).map (fun i=>(l.drop (i*9)).take 9)).flatten=l.take (k*9):=by
  intro k;induction k with
  | zero => simp
  | succ k ih =>
   rw[List.range_succ,List.map_append,List.flatten_append,ih];simp only[List.map_cons,List.map_nil,List.flatten_cons,List.flatten_nil,List.append_nil];rw[show(k+1)*9=k*9+9 by omega,List.take_add]
 unfold bU;rw[key,Gj (by omega)]
theorem iL (l:List Int):(bU l).length=(l.length+8)/9:=by unfold bU;simp
end Mx
end
section
open Go.RowKit
variable {k:Nat} {w:World}
def Mx.bd (l:List B8) (b:B8):List B8:=(b::l.filter (fun y=>decide (¬y=b))).take 8
theorem Mx.mx (l:List B8) (b:B8):(Mx.bd l b).length≤8:=by unfold Mx.bd;rw[Gk];omega
theorem Mx.tp {l:List B8} {y b:B8} (h:l[k]?=some y) (hy:¬y=b) (hlt:(Mx.bd (l.take k) b).length<8):Mx.bd (l.take (k+1)) b=Mx.bd (l.take k) b++[y]:=by
 have key:∀ xs:List B8,xs.length<8→(xs++[y]).take 8=xs.take 8++[y]:=fun xs h=>by rw[Gj (by simp;omega),Gj (by omega)]
 unfold Mx.bd at hlt ⊢;rw[Gk] at hlt;have hf:[y].filter (fun y=>decide (¬y=b))=[y]:=by simp[hy]
 rw[aN _ _ _ h,List.filter_append,hf,←List.cons_append];exact key _ (by omega)
theorem Mx.tm {l:List B8} {y b:B8} (h:l[k]?=some y) (hge:¬(Mx.bd (l.take k) b).length<8):Mx.bd (l.take (k+1)) b=Mx.bd (l.take k) b:=by
 unfold Mx.bd at hge ⊢;rw[Gk] at hge;rw[aN _ _ _ h,List.filter_append,←List.cons_append,List.take_append];rw[show 8-(b::List.filter (fun y=>decide (¬y=b)) (l.take k)).length=0 by omega];simp
theorem Mx.tn {l:List B8} {y b:B8} (h:l[k]?=some y) (hy:y=b):Mx.bd (l.take (k+1)) b=Mx.bd (l.take k) b:=by
 unfold Mx.bd;rw[aN _ _ _ h,List.filter_append];have hf:[y].filter (fun y=>decide (¬y=b))=[]:=by simp[hy]
 rw[hf,List.append_nil]
theorem Mx.uk {l:List B8} {b:B8} (hk:l.length≤k):Mx.bd (l.take k) b=Mx.bd l b:=by rw[Gj hk]
theorem vr (w:World) (p:B8) (t:TypeId) :
 ∀ j u,(aT [p])[j]?=some u→(w.alloc (.cells #[.int .u8 p.z0,.int .u8 p.z1,.int .u8 p.z2,.int .u8 p.z3,.int .u8 p.z4,.int .u8 p.z5,.int .u8 p.z6,.int .u8 p.z7] t)).cell? ((⟨w.heap.size,0,none⟩:Addr).add j)=some u:=by
 intro j u hj;have hadd:(⟨w.heap.size,0,none⟩:Addr).add j=⟨w.heap.size,j,none⟩:=by unfold Addr.add;split<;>simp_all
 rw[hadd,World.cell?_alloc_new];simpa [aT,B8.cs] using hj
theorem ir {ops:Array Oper} {rest:List Oper} {o:Oper} {a:Act} {Q:Exit→Act→World→Prop} (hgd:o.guard=none) (s x:Operand)
 (ho:o.op=.call {callee:=.builtin .append,args:=#[s,x],argTypes:=#[38,38]}) (base:Nat) (l:List B8) (hown:au w base (a.eval s) l)
 (p:B8) (hx:a.eval x=.slice (some ⟨w.heap.size,0,none⟩) 1 1) (h63:l.length≤1000000) (hbase:base≤w.heap.size)
 (h:∀ g c w',base≤g→l.length+1≤c→au w' base (.slice (some ⟨g,0,none⟩) (l.length+1) c) (l++[p])→w.grownBy w' (a.eval s).ownBlock→wpList Tryz.prog ops Q rest (a.put o.dst (.slice (some ⟨g,0,none⟩) (l.length+1) c)) w') :
 wpList Tryz.prog ops Q (o::rest) a (w.alloc (.cells #[.int .u8 p.z0,.int .u8 p.z1,.int .u8 p.z2,.int .u8 p.z3,.int .u8 p.z4,.int .u8 p.z5,.int .u8 p.z6,.int .u8 p.z7] 33)):=by
 obtain⟨i0,hi,hz0,hz1,hz2⟩:=info_parts Tryz.info33;refine wpList_append_own _ hgd s x 38 ho base 33 i0 _ 8 8 Tryz.underlying38 hi hz0 hz1 hz2 rfl (by decide) (a.eval s) l.length (aT l) rfl (World.ownsRow.alloc hown _) ⟨w.heap.size,0,none⟩ 1 1 (aT [p]) hx (by simp[aT,B8.cs]) (vr w p 33) js (by unfold maxLen;omega) (by omega) (by simp;omega) ?_;intro v' w' hown' hg _;have hI:au w' base v' (l++[p]):=by
  unfold au;rw[Ge,aT,List.flatMap_append];exact hown'
 have hg':w.grownBy w' (a.eval s).ownBlock:=⟨hg.os,hg.tape,hg.output,by have:=hg.size;simp at this;omega,fun k hk hne=>(hg.block k (by simp;omega) hne).trans (Below.heap_alloc w _ k hk)⟩
 rcases hown'.2 with ⟨_,hz⟩|⟨g,cap,cur,rfl,hbg,_,hcap,_⟩
 ·simp at hz
 ·exact h _ _ w' hbg (by simpa using hcap) hI hg'
theorem au.one (w:World) (base:Nat) (hb:base≤w.heap.size) (x:B8):au (w.alloc (.cells #[.int .u8 x.z0,.int .u8 x.z1,.int .u8 x.z2,.int .u8 x.z3,.int .u8 x.z4,.int .u8 x.z5,.int .u8 x.z6,.int .u8 x.z7] 33)) base (.slice (some ⟨w.heap.size,0,none⟩) 1 1) [x]:=by
 unfold au;refine⟨by simp[aT,B8.cs],.inr ⟨w.heap.size,1,_,rfl,hb,heap_alloc_new w _,Gi _,by unfold maxLen;omega,by simp,?_⟩⟩;simp[aT,B8.cs]
theorem au.lower {base base':Nat} {v:Value} {l:List B8} (h:au w base v l) (hb:base'≤base):au w base' v l:=by
 obtain⟨h1,h2⟩:=h;refine⟨h1,?_⟩;rcases h2 with h2|⟨g,cap,cur,e,hg,hr⟩
 ·exact .inl h2
 ·exact .inr ⟨g,cap,cur,e,by omega,hr⟩
def Tch (w:World) (base gx:Nat) (x:B8) (t:List B8) (v:Value) (wr:World):Prop :=
 Gq w wr∧Gs wr gx x∧au wr base v t∧base≤wr.heap.size
theorem Tch.alloc {w wr:World} {base gx:Nat} {x:B8} {t:List B8} {v:Value} (h:Tch w base gx x t v wr) (o:Obj):Tch w base gx x t v (wr.alloc o) :=
 ⟨h.1.alloc h.1.size _,h.2.1.alloc _,World.ownsRow.alloc h.2.2.1 _,by have:=h.2.2.2;simp;omega⟩
theorem Tch.grown {w wr w':World} {base gx:Nat} {x:B8} {t t':List B8} {v v':Value} (h:Tch w base gx x t v wr) (hgx:gx<base) (hwb:w.heap.size≤base) (hg:wr.grownBy w' v.ownBlock) (ho:au w' base v' t'):Tch w base gx x t' v' w':=by
 have hlt:∀ k,v.ownBlock=some k→base≤k:=fun k hk=>(World.ownsRow.lt h.2.2.1 k hk).1
 refine⟨h.1.grown hg h.1.size (fun k hk=>Gn hwb (hlt k hk)),(hg.block gx h.2.1.lt (fun e=>?_)).trans h.2.1,ho,?_⟩
 ·have:=hlt gx e.symm
  omega
 ·have:=hg.size
  have:=h.2.2.2;omega
end
section
open Go.RowKit
theorem Ah (a:Option Addr) (n c:Nat) (l:List B8) (x:B8) (w:World) (hl:BL w a n l) (hc:n≤c) (hE:Mx.bT l=0) :
 Calls Tryz.prog 138 #[.slice a n c,.agg #[.int .u8 x.z0,.int .u8 x.z1,.int .u8 x.z2,.int .u8 x.z3,.int .u8 x.z4,.int .u8 x.z5,.int .u8 x.z6,.int .u8 x.z7]] w fun e w'=>∃ g c',e=.returned (.tuple #[.slice (some ⟨g,0,none⟩) (Mx.bd l x).length c',.nilIface])∧Hid (au w' w.heap.size (.slice (some ⟨g,0,none⟩) (Mx.bd l x).length c') (Mx.bd l x))∧Hid (Gq w w'):=by
 have hlen:n≤maxLen:=hl.2.2.1;unfold maxLen at hlen;have HL:=aa hl;have HN:=aa hl.1;have HE:=aa hE;clear hl hE;go_enter Tryz.func138,Tryz.ntmps138;go_wp2_with fail;refine(kl a n c l _ (HL.o.later (af _ _)) hc).mono ?_;rintro e w1 ⟨rfl,hb⟩;rw[HE.o,show bt 0=Value.nilIface from rfl];have HB:=aa ((af w (.cells #[.int .u8 x.z0,.int .u8 x.z1,.int .u8 x.z2,.int .u8 x.z3,.int .u8 x.z4,.int .u8 x.z5,.int .u8 x.z6,.int .u8 x.z7] 33)).trans (hb.mono (by simp)));have X1:=aa (show Gs w1 w.heap.size x from(Bx.new w _ _).later hb (by simp));have L1:=aa (show w.heap.size+1≤w1.heap.size by have:=hb.size;simpa using this);clear hb;obtain⟨f0,f1,f2,f3,f4,f5,f6,f7⟩:=X1.o.eight;go_wp2_with fail;go_loopw [7,19] (fun v i wr=>∃ (k g c' m:Nat),k≤n∧i=.int .i64 k∧m≤8∧v=.slice (some ⟨g,0,none⟩) m c'∧Hid (m=(Mx.bd (l.take k) x).length)∧Hid (Tch w w1.heap.size w.heap.size x (Mx.bd (l.take k) x) (.slice (some ⟨g,0,none⟩) m c') wr)) (fun _ i _=>n-(intOf i).toNat)
 case atStart =>
  refine⟨0,w1.heap.size,1,1,by omega,rfl,by omega,by simp,by simp[Hid,Mx.bd],?_⟩;have ht:Mx.bd (l.take 0) x=[x]:=by simp[Mx.bd]
  rw[ht];exact⟨HB.o.alloc HB.o.size _,X1.o.alloc _,au.one w1 w1.heap.size (Gi _) x,by simp⟩
 case round =>
  clear f0 f1 f2 f3 f4 f5 f6 f7;obtain⟨k,g,c',m,hk,rfl,hm8,rfl,hm,hT⟩:=hrel;by_cases hlt:k<n
  ·obtain⟨b,off,y,rfl,hb,hy,e0,e1,e2,e3,e4,e5,e6,e7⟩:=(HL.o.later hT.o.1).at_ k hlt
   obtain⟨f0,f1,f2,f3,f4,f5,f6,f7⟩:=hT.o.2.1.eight;have hxl:=hT.o.2.1.lt;have HY:=aa hy;clear hy;have heq:=eZ y.z0 y.z1 y.z2 y.z3 y.z4 y.z5 y.z6 y.z7 x.z0 x.z1 x.z2 x.z3 x.z4 x.z5 x.z6 x.z7;by_cases hcc:[y.z0,y.z1,y.z2,y.z3,y.z4,y.z5,y.z6,y.z7]=[x.z0,x.z1,x.z2,x.z3,x.z4,x.z5,x.z6,x.z7]
   ·have HC:=aa (Mx.tn HY.o ((B8.eq_list y x).1 hcc))
    rw[decide_eq_true hcc] at heq;clear hcc;go_wp2_with fail;go_roundw
    case rel=>exact⟨k+1,g,c',m,by omega,by go_num,hm8,rfl,by rw[HC.o];exact hm,by rw[HC.o];exact hT.o.alloc _⟩
    case measure=>simp[intOf];omega
   ·by_cases hmlt:(m:Int)<8
    ·have HC:=aa (Mx.tp (b:=x) HY.o (fun e=>hcc ((B8.eq_list y x).2 e)) (by rw[←hm.o];omega))
     rw[decide_eq_false hcc] at heq;clear hcc;go_wp2_with (at_builtin;refine ir rfl _ _ rfl w1.heap.size (Mx.bd (l.take k) x) ?c0 y ?c1 ?c2 ?c3 ?_);case c0=>exact(hT.o.alloc _).2.2.1
     case c1=>rw[World.size_alloc];rfl
     case c2=>have:=Mx.mx (l.take k) x;omega
     case c3=>have:=hT.o.2.2.2;simp;omega
     intro g' c2 w' hbg hcap hown hgr;have hOP:=aa hown;have hG:=aa hgr;clear hown hgr hbg hcap e0 e1 e2 e3 e4 e5 e6 e7 f0 f1 f2 f3 f4 f5 f6 f7 heq;rw[←hm.o];go_wp2
     go_roundw
     case rel=>exact⟨k+1,g',c2,m+1,by omega,by go_num,by omega,rfl,by rw[HC.o];unfold Hid;rw[hm.o];simp,by rw[HC.o];exact Tch.grown (hT.o.alloc _) (by have:=L1.o;omega) (by have:=L1.o;omega) hG.o (by rw[hm.o];exact hOP.o)⟩
     case measure=>simp[intOf];omega
    ·have HC:=aa (Mx.tm (b:=x) HY.o (by rw[←hm.o];omega))
     rw[decide_eq_false hcc] at heq;clear hcc;go_wp2_with fail;go_roundw
     case rel=>exact⟨k+1,g,c',m,by omega,by go_num,hm8,rfl,by rw[HC.o];exact hm,by rw[HC.o];exact hT.o.alloc _⟩
     case measure=>simp[intOf];omega
  ·have HS:=aa (Mx.uk (l:=l) (k:=k) (b:=x) (by rw[HN.o];omega))
   go_wp2_with fail;exact bodyPost_ret (v:=.tuple #[.slice (some ⟨g,0,none⟩) m c',.nilIface]) (by simp[results,Tryz.results138,go_sem]) rfl ⟨g,c',by rw[←HS.o,←hm.o],by rw[←HS.o,←hm.o];exact au.lower hT.o.2.2.1 (by have:=L1.o;omega),hT.o.1⟩
end
section
open Go.RowKit
variable {k:Nat} {x:World}
def cO (c:Code) (Q:Exit→Act→World→Prop) (k:Nat) (a:Act) (x:World):Prop:=Code.wp Tryz.prog (dH k c) Q a x
theorem bJ {c:Code} {Q:Exit→Act→World→Prop} {a:Act} {s:Code} (h:dH k c=.seq s (dH (k+1) c))
 (hs:∀ K:Act→World→Prop,(∀ a' x',Met (cO c Q (k+1)) a' x'→K a' x')→Code.wp Tryz.prog s (Exit.then K Q) a x):cO c Q k a x:=by
 unfold cO;rw[h];refine wp_seq_k (fun K hK=>hs K (fun a' x' hm=>hK a' x' hm))
theorem iQ {c c':Code} {Q:Exit→Act→World→Prop} {a:Act} (h:dH k c=c') (hs:Code.wp Tryz.prog c' Q a x):cO c Q k a x:=by
 unfold cO;rw[h];exact hs
theorem gS {s c:Code} {Q:Exit→Act→World→Prop} {a:Act} (hs:∀ K:Act→World→Prop,(∀ a' x',Met (fun a'' x''=>Code.wp Tryz.prog c Q a'' x'') a' x'→K a' x')→Code.wp Tryz.prog s (Exit.then K Q) a x):Code.wp Tryz.prog (.seq s c) Q a x :=
 wp_seq_k (fun K hK=>hs K (fun a' x' hm=>hK a' x' hm))
def fG:Code→Code
 | .seq s _ => s
 | c => c
def fu:Code→Code
 | .seq _ (.block _ (.loop (.seq _ (.seq (.block _ b) _)))) => b
 | c => c
end
section
open Go.RowKit Go.Shelf
variable {n₀ Bs Bn:Nat}
attribute [local go_sem] Oper.semAt_some
def KpC (n₀ Bs Bn:Nat) (W W':World):Prop:=Below n₀ W W'∧W'.heap[Bs]?=W.heap[Bs]?∧W'.heap[Bn]?=W.heap[Bn]?
theorem Fw {A B C:World} (h:KpC n₀ Bs Bn A B) (k:KpC n₀ Bs Bn B C):KpC n₀ Bs Bn A C:=⟨h.1.trans k.1,k.2.1.trans h.2.1,k.2.2.trans h.2.2⟩
theorem Fv {w:World} (hn:n₀≤w.heap.size) (hB:Bs<w.heap.size) (hB2:Bn<w.heap.size) (W:World) (l:Nat) (o o':Obj) (hl:w.heap.size≤l) (h:W.heap[l]?=some o) (h1:o.isCells=false) (h2:o.isWalk=false):KpC n₀ Bs Bn W (W.putObj l o') :=
 ⟨(nL hn hB W l o o' hl h h1 h2).1,(nL hn hB W l o o' hl h h1 h2).2,(nL hn hB2 W l o o' hl h h1 h2).2⟩
end
end Go.Proofs.YtbicgjafjjihdaaGreatDoor
