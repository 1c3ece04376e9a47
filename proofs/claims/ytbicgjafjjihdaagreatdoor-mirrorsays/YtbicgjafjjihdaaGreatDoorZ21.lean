/- Part. -/
import Derived.Maps.RangeWalk
import Derived.Test.YtbicgjafjjihdaaGreatDoorZ19
set_option maxHeartbeats 16000000
set_option maxRecDepth 100000
namespace Go.Proofs.YtbicgjafjjihdaaGreatDoor
section
open Go.RowKit
open Go.Maps (Keyed)
open Go.ChangeMaps (setBlock)
theorem eM:Keyed Tryz.prog 3:=Go.Maps.int_keyed Tryz.underlying3
theorem fw {k:Int} (h0:0≤k) (h1:k≤2147483647):keyOf Tryz.prog 3 (.int .i64 k)=some (.int .i64 k):=by
 refine Go.Maps.keyOf_int_mk Tryz.underlying3 ?_;simp[Lit.wf,IntKind.min,IntKind.max,IntKind.signed,IntKind.bits];omega
theorem pN (x first:Int) (v:Value) (c:Nat) (w:World) (hc:w.cell? ⟨c,0,none⟩=some (.int .i64 first)) :
 Calls Tryz.prog 84 #[.int .i64 x,v,.pointer (some ⟨c,0,none⟩)] w fun e w'=>e=.returned (.bool (decide (x<first)))∧w'=w:=by
 go_enter Tryz.func84,Tryz.ntmps84;go_wp2_with fail;go_ret;exact⟨rfl,rfl⟩
structure Rg (w:World) (m r:Nat) (es:List MapEntry) (ck:Nat) (seen:Array Nat):Prop where
 mp:Mp 3 w m es ck
 it:∃ since c0,w.heap[r]?=some (.mapIter (some m) since seen c0)∧(∀ x∈es,x.born<since)∧since≤c0∧since≤ck
theorem Rg.left {w:World} {m r:Nat} {es:List MapEntry} {ck:Nat} {seen:Array Nat} (h:Rg w m r es ck seen):w.rangeLeft m r=(leftOf es.toArray seen).size:=by
 obtain⟨since,c0,h1,_⟩:=h.it;unfold World.rangeLeft;rw[h.mp.at_,h1]
theorem Rg.ne {w:World} {m r:Nat} {es:List MapEntry} {ck:Nat} {seen:Array Nat} (h:Rg w m r es ck seen):r≠m:=by
 obtain⟨since,c0,h1,_⟩:=h.it;rintro rfl;rw[h.mp.at_] at h1;cases h1
section
variable {w:World} {ops:Array Oper} {rest:List Oper} {o:Oper} {a:Act} {Q:Exit→Act→World→Prop}
theorem oC (hg:o.guard=none) (m:Operand) (t:TypeId) (hop:o.op=Op.range t m) (e:TypeId) (ht:Tryz.prog.underlying t=some (.map 3 e)) (b:Nat) (es:List MapEntry) (ck:Nat) (hm:a.eval m=.map (some b)) (h:Mp 3 w b es ck)
 (hK:∀ w',Rg w' b w.heap.size es ck #[]→Gq w w'→wpList Tryz.prog ops Q rest (a.put o.dst (.pointer (some ⟨w.heap.size,0,none⟩))) w') :
 wpList Tryz.prog ops Q (o::rest) a w:=by
 refine wpList_plain hg fun K' hK'=>?_
 have hrun:=run_range_map (P:=Tryz.prog) w t 3 e b es.toArray ck ht h.at_;unfold Oper.wp;simp[execOp,hop,hm,hrun,Result.andThen];refine hK' _ _ (hK _ ⟨h.later (af _ _),ck,ck,heap_alloc_new w _,h.lt,Gi _,Gi _⟩ (af _ _))
theorem pg (hg:o.guard=none) (it:Operand) (hop:o.op=Op.next it false) (m r:Nat) (es:List MapEntry) (ck:Nat) (seen:Array Nat) (hit:a.eval it=.pointer (some ⟨r,0,none⟩)) (h:Rg w m r es ck seen)
 (hDone:wpList Tryz.prog ops Q rest (a.put o.dst (.tuple #[.bool false])) w)
 (hMore:∀ e∈es,∀ w',Rg w' m r es ck (seen.push e.born)→(leftOf es.toArray (seen.push e.born)).size<(leftOf es.toArray seen).size→w.grownBy w' (some r)→(Instr.entry (.pointer (some ⟨r,0,none⟩))).run Tryz.prog w'=.ok (.tuple #[e.key,e.val]) w'→wpList Tryz.prog ops Q rest (a.put o.dst (.tuple #[.bool true,e.key,e.val])) w') :
 wpList Tryz.prog ops Q (o::rest) a w:=by
 refine wpList_plain hg fun K' hK'=>?_
 have hne:=h.ne;obtain⟨since,c0,hr,hold,hsc,hsk⟩:=h.it;unfold Oper.wp;rcases run_next_at (P:=Tryz.prog) w o.type r m since c0 seen es.toArray ck hr h.mp.at_ (by simpa using hold) hsc with ⟨h0,hrun⟩|⟨e,he,w1,hal,hrun⟩
 ·simp[execOp,hop,hit,hrun,Result.andThen]
  exact hK' _ _ hDone
 ·obtain⟨hem,hes⟩:=mem_left he
  have hr1:w1.heap[r]?=some (.mapIter (some m) since seen c0):=by rcases hal with rfl|rfl<;>exact hr
  have hb1:w1.heap[m]?=some (.map es.toArray ck):=by rcases hal with rfl|rfl<;>exact h.mp.at_
  have hlt:r<w1.heap.size:=(Array.getElem?_eq_some_iff.1 hr1).1;have hg1:w.grownBy (setBlock w1 r (.mapIter (some m) since (seen.push e.born) ck)) (some r):=by
   have h2:=fC (w:=w1) (m:=r) (.mapIter (some m) since (seen.push e.born) ck);rcases hal with rfl|rfl
   ·exact h2
   ·exact(cy (aq w (some r))).trans h2
  have hm':Mp 3 (setBlock w1 r (.mapIter (some m) since (seen.push e.born) ck)) m es ck:=h.mp.grow hg1 (fun e1=>hne (Gg e1).symm);have hem':e∈es:=by simpa using hem
  simp[execOp,hop,hit,hrun,Result.andThen];refine hK' _ _ (hMore e hem' _ ⟨hm',since,ck,fM hlt _,hold,hsk,hsk⟩ (left_shrinks es.toArray seen e he) hg1 ?_);exact run_entry_at _ r m since seen es.toArray ck e (fM hlt _) hm'.at_ (by simpa using hem') (by simpa using h.mp.bn)
end
theorem A8 {es es':List MapEntry} (h:es'.Sublist es) (seen:Array Nat):(leftOf es'.toArray seen).size≤(leftOf es.toArray seen).size:=by
 unfold leftOf;have:=(h.filter (fun e=>!seen.contains e.born)).length_le;simpa using this
structure Kept (es es':List MapEntry) (first:Int):Prop where
 sub:es'.Sublist es
 kept:∀ e∈es,∀ k:Int,e.key=.int .i64 k→first≤k→e∈es'
theorem tw (m c:Nat) (first:Int) (es:List MapEntry) (ck:Nat) (w:World) (hM:Mp 3 w m es ck) (hk:∀ e∈es,∃ (k:Nat) (a:Option Addr) (n cp:Nat),e.key=.int .i64 (k:Int)∧(k:Int)≤2147483647∧e.val=.slice a n cp) (hc:w.cell? ⟨c,0,none⟩=some (.int .i64 first)) (hcm:c≠m) :
 Calls Tryz.prog 83 #[.map (some m),.func (.func 84) #[] #[.pointer (some ⟨c,0,none⟩)]] w fun e w'=>e=.returned (.tuple #[])∧Hid (∃ es',Mp 3 w' m es' ck∧Kept es es' first)∧Hid (w.grownBy w' (some m)):=by
 have HC:=aa hc;have HK:=aa hk;have HM:=aa hM;clear hc hk;go_enter Tryz.func83,Tryz.ntmps83;go_wp2_with (first
  |(at_range;refine oC rfl _ 102 rfl 38 Tryz.underlying102 m es ck rfl HM.o ?_;intro w0 hrg0 hb0)
  | go_in)
 go_frame
 have HB0:=aa hb0;have HR0:=aa hrg0;clear hb0 hrg0;go_loopw [4] (fun _ wr=>∃ (es':List MapEntry) (seen:Array Nat),Hid (Rg wr m w.heap.size es' ck seen)∧Hid (Kept es es' first)∧Hid (w.grownBy wr (some m))) (fun _ wr=>wr.rangeLeft m w.heap.size)
 case atStart=>exact⟨es,#[],HR0,⟨List.Sublist.refl _,fun e he _ _ _=>he⟩,bE HB0.o _⟩
 case round =>
  obtain⟨es',seen,hrg,hkp,hgw⟩:=hrel;have hsz:w.heap.size≤wr.heap.size:=hgw.o.size;go_wp2_with (first
   |(at_next;refine pg rfl _ rfl m w.heap.size es' ck seen rfl hrg.o ?_ ?_)
   | go_in)
  ·go_wp2_with fail
   go_end0
   exact⟨rfl,aa ⟨es',hrg.o.mp,hkp.o⟩,hgw⟩
  ·intro e he w1 hrg1 hlt hg1 hen
   obtain⟨k,a,n,cp,hek,hk2,hev⟩:=HK.o e (hkp.o.sub.subset he);have HE:=aa he;have HEK:=aa hek;have HG1:=aa (show w.grownBy w1 (some m) from hgw.o.andThen hg1 (fun j hj=>by cases hj;exact Or.inl (Gi _)));have HR1:=aa hrg1;have HLT:=aa hlt;rw[hek,hev] at hen;rw[hek,hev];have hc1:w1.cell? ⟨c,0,none⟩=some (.int .i64 first):=HG1.o.cell (row:=some m) HC.o (fun e=>hcm (Gg e));clear he hrg1 hg1 hlt hek hev;by_cases hf:(k:Int)<first
   ·have hd:decide ((k:Int)<first)=true:=by simpa using hf
    obtain⟨i,hi⟩:=List.getElem?_of_mem HE.o;have hdel:∀ ty,(Builtin.delete_ #[102,3] ty #[.map (some m),.int .i64 (k:Int)]).run Tryz.prog w1=.ok (.tuple #[]) (setBlock w1 m (.map (es'.eraseIdx i).toArray ck)):=fun ty=>Mp.del (ty:=ty) eM Tryz.underlying102 HR1.o.mp (fw (by omega) hk2) hi HEK.o
    have HI:=aa hi;have HF:=aa hf;clear hi hf;obtain⟨w2,hw2⟩:∃ w2:World,Hid (w2=setBlock w1 m (.map (es'.eraseIdx i).toArray ck)):=⟨_,rfl⟩
    rw[←hw2.o] at hdel;have G2:=aa (show w1.grownBy w2 (some m) by rw[hw2.o];exact fC _);have M2:=aa (show Mp 3 w2 m (es'.eraseIdx i) ck from HR1.o.mp.erase i (by rw[hw2.o];exact fM HR1.o.mp.ltm _));have R2:=aa (show Rg w2 m w.heap.size (es'.eraseIdx i) ck (seen.push e.born) from⟨M2.o,by
     obtain⟨since,c0,h1,h2,h3,h4⟩:=HR1.o.it;exact⟨since,c0,(G2.o.block _ (Array.getElem?_eq_some_iff.1 h1).1 (fun e1=>HR1.o.ne (Gg e1))).trans h1,fun x hx=>h2 x (List.mem_of_mem_eraseIdx hx),h3,h4⟩⟩)
    go_upto_region 3 with fail
    clear hen;go_wp2_with fail;refine(pN (k:Int) first (.slice a n cp) c w1 hc1).mono ?_;rintro ee wz ⟨rfl,hz⟩;obtain rfl:=hz.symm;clear hz;clear hc1;rw[hd];go_wp2_with fail;go_roundw
    case rel=>exact⟨es'.eraseIdx i,seen.push e.born,R2,⟨(List.eraseIdx_sublist es' i).trans hkp.o.sub,fun x hx k' hk' hfk=>by
     have h1:=hkp.o.kept x hx k' hk' hfk;obtain⟨j,hj⟩:=List.getElem?_of_mem h1;have hji:j≠i:=by
      rintro rfl;rw[HI.o] at hj;cases hj
      rw[HEK.o] at hk';cases hk'
      have:=HF.o;omega
     rw[List.mem_eraseIdx_iff_getElem?];exact⟨j,hji,hj⟩⟩,HG1.o.trans G2.o⟩
    case measure =>
     rw[R2.o.left,hrg.o.left];exact Nat.lt_of_le_of_lt (A8 (List.eraseIdx_sublist es' i) _) HLT.o
   ·have hd:decide ((k:Int)<first)=false:=by simpa using hf
    go_upto_region 3 with fail
    clear hen;go_wp2_with fail;refine(pN (k:Int) first (.slice a n cp) c w1 hc1).mono ?_;rintro ee wz ⟨rfl,hz⟩;obtain rfl:=hz.symm;clear hz;clear hc1;rw[hd];go_wp2_with fail;go_roundw
    case rel=>exact⟨es',seen.push e.born,HR1,hkp,HG1⟩
    case measure =>
     rw[HR1.o.left,hrg.o.left];exact HLT.o
end
section
open Go.RowKit
variable {S:Nat→Prop} {w:World} {n:Nat}
theorem Pbx.ne {P g:Nat} {num:Int} {oa:Option Addr} {on oc:Nat} {sa:Option Addr} {sn sc:Nat} {be:Bool} {m:Nat} {safe ses base:Int} {qa:Option Addr} {qn qc:Nat} {known:Bool} {goal:Int} {ha:Option Addr} {hn hc:Nat} {ae:List (List B8)} {b:Bu} {p:Pf_} {oa':Option Addr} {on' oc':Nat} {sa':Option Addr} {sn' sc':Nat} {qa':Option Addr} {qn' qc':Nat} {ha':Option Addr} {hn' hc':Nat}
 (h:Pbx w P g n num oa on oc sa sn sc be m safe ses base qa qn qc known goal ha hn hc) (hr:PrR S w n ae b p g oa' on' oc' sa' sn' sc' m qa' qn' qc' ha' hn' hc'):P≠g∧P≠m∧g≠m:=by
 obtain⟨bl,_,_,_,_,_,_,_,_,T,_⟩:=hr.nd;obtain⟨es,ck,hm⟩:=hr.mp.is;have h1:w.heap[P]?=some (.cells _ 107 (0,0)):=h;have h2:w.heap[g]?=some (.cells _ 137 (0,0)):=T.bx;refine⟨?_,?_,?_⟩
 ·rintro rfl
  rw[h1] at h2;simp at h2
 ·rintro rfl
  rw[h1] at hm;cases hm
 ·rintro rfl
  rw[h2] at hm;cases hm
theorem SnE.sub {ae:List (List B8)} {hv:Nat} {es es':List MapEntry} (h:SnE S w n ae hv es) (hs:es'.Sublist es):SnE S w n ae hv es':=fun e he=>h e (hs.subset he)
theorem sG (A S:Nat→Prop) (P n:Nat) (ae:List (List B8)) (b:Bu) (p:Pf_) (w:World) (hm:Mut S w) (g:Nat) (num0:Int) (oa:Option Addr) (on oc:Nat) (sa:Option Addr) (sn sc:Nat) (be0:Bool) (ka:Option Addr) (kn kc:Nat) (la:Option Addr) (ln lc:Nat) (m:Nat) (qa:Option Addr) (qn qc:Nat) (ha:Option Addr) (hn hc:Nat)
 (hx:Pbx w P g n num0 oa on oc sa sn sc be0 m (p.safe:Int) (p.s:Int) (p.base:Int) qa qn qc p.known (p.goal:Int) ha hn hc) (hr:PrR S w n ae b p g ka kn kc la ln lc m qa qn qc ha hn hc) (aP:A P) (ag:A g) (am:A m) (sub:∀ b,A b→S b) (hh:(p.ar:Int)≤2147483647) (hl:b.se.length≤4) :
 Calls Tryz.prog 45 #[.pointer (some ⟨P,0,none⟩),.agg #[.int .i64 b.num,.slice ka kn kc,.slice la ln lc,.bool b.be]] w fun e w'=>e=.returned (.tuple #[])∧Hid (PrD A S w w' P n ae b p):=by
 have NE:=aa (Pbx.ne hx hr);obtain⟨N,hN⟩:∃ N:Nat,Hid (N=p.ar):=⟨_,rfl⟩
 have HNB:=aa (show b.num=(N:Int) by rw[hr.num,hN.o]);have hln:ln=b.se.length:=hr.bu.se.1.symm;have HLN:=aa hln;have hln4:ln≤4:=by omega
 have hN2:(N:Int)≤2147483647:=by rw[hN.o];exact hh
 rw[HNB.o];obtain⟨W0,hW0⟩:∃ W0:World,Hid (W0=w.alloc (.cells #[.int .i64 (N:Int),.slice ka kn kc,.slice la ln lc,.bool b.be] 101)):=⟨_,rfl⟩
 have B0:=bxA hW0;have D0:=beA hW0;have HX:=aa (show Pbx W0 P g n num0 oa on oc sa sn sc be0 m (p.safe:Int) (p.s:Int) (p.base:Int) qa qn qc p.known (p.goal:Int) ha hn hc from Bx.later hx D0.o (Bx.lt hx));have HR:=aa (hr.later D0.o);have HM:=aa (hm.later D0.o);have hPw:P<w.heap.size:=Bx.lt hx;have hne1:¬w.heap.size=P:=by omega
 have hne2:¬P=w.heap.size:=by omega
 clear hx hr hm hln hh hl;obtain⟨W1,hW1⟩:∃ W1:World,Hid (W1=n5 W0 P (.int .i64 (N:Int)) (.slice ka kn kc) (.slice la ln lc) (.bool b.be)):=⟨_,rfl⟩
 have G1:=aa (show W0.grownBy W1 (some P) by rw[hW1.o];exact gV _ _ _ _ _ _);have X1:=aa (show Pbx W1 P g n (N:Int) ka kn kc la ln lc b.be m (p.safe:Int) (p.s:Int) (p.base:Int) qa qn qc p.known (p.goal:Int) ha hn hc by rw[hW1.o];exact(((Bx.set HX.o 2 _).set 3 _).set 4 _).set 5 _);have R1:=aa (HR.o.ext (Ex.one G1.o) (fun b hb=>by rw[hb];exact sub _ aP) (fun e=>NE.o.1 e.symm) (fun e=>NE.o.2.1 e.symm));have M1:=aa (HM.o.dZ (Ex.one G1.o) X1.o fm);have B1:=aa (Bx.grow B0.o G1.o (fun e=>hne1 (Gg e)));obtain⟨W2,hW2⟩:∃ W2:World,Hid (W2=W1.alloc (.cells #[.int .i64 ((N:Int)-(ln:Int))] 3)):=⟨_,rfl⟩
 have D2:=beA hW2;have F2:=bxA hW2;have X2:=aa (show Pbx W2 P g n (N:Int) ka kn kc la ln lc b.be m (p.safe:Int) (p.s:Int) (p.base:Int) qa qn qc p.known (p.goal:Int) ha hn hc from Bx.later X1.o D2.o (Bx.lt X1.o));have R2:=aa (R1.o.later D2.o);have M2:=aa (M1.o.later D2.o);obtain⟨b0,b1,b2,b3⟩:=Bx.four B0.o;obtain⟨x0,x1,x2,x3,x4,x5,x6,x7,x8,x9,x10,x11,x12,x13⟩:=HX.o.cells;clear x0 x1 x6 x7 x8 x9 x10 x11 x12 x13;have xz:=Bx.frozen HX.o;go_enter Tryz.func45,Tryz.ntmps45;go_upto_region 1 with fail
 rw[←hW0.o];go_upto_region 2 with fail
 unfold n5 at hW1;rw[←hW1.o];clear b0 b1 b2 b3 x2 x3 x4 x5 xz;obtain⟨b0,b1,b2,b3⟩:=Bx.four B1.o;go_upto_region 3 with fail
 rw[←hW2.o];clear b0 b1 b2 b3;have x6:=X2.o.cells.2.2.2.2.2.2.1;have f0:W2.cell? ⟨W1.heap.size,0,none⟩=some (.int .i64 ((N:Int)-(ln:Int))):=F2.o.cell 0;obtain⟨es,ck,hmp,hse,hsk⟩:=R2.o.mp;have HSE:=aa hse;have HSK:=aa hsk;have HMP:=aa hmp;clear hse hsk;have hfm:W1.heap.size≠m:=by
  intro e;have h1:=F2.o;unfold Bx at h1;rw[e,hmp.at_] at h1;cases h1
 clear hmp;go_wp2_with fail;refine(tw m W1.heap.size ((N:Int)-(ln:Int)) es ck W2 HMP.o (fun e he=>by
  obtain⟨k,l,a,c,h1,h2,h3,h4,h5,h6⟩:=HSE.o e he;exact⟨k,a,n,c,h1,by have h7:=hN.o;omega,h4⟩) f0 hfm).mono ?_
 rintro e w3 ⟨rfl,K3,G3⟩;obtain⟨es',hm3,hk3⟩:=K3.o;have HM3:=aa hm3;have HK3:=aa hk3;clear hm3 hk3 x6 f0;have Z3:=aa (Ex.one G3.o);have X3:=aa (show Pbx w3 P g n b.num ka kn kc la ln lc b.be m (p.safe:Int) (p.s:Int) (p.base:Int) qa qn qc p.known (p.goal:Int) ha hn hc by rw[HNB.o];exact Ex.bx Z3.o X2.o NE.o.2.1);have R3:=aa (show PrR S w3 n ae b p g ka kn kc la ln lc m qa qn qc ha hn hc from by
  have hS:Ex S W2 w3:=Z3.o.mono (fun b _ hb=>by rw[hb];exact sub _ am);obtain⟨bl,h1,h2⟩:=R2.o.nd;refine⟨⟨bl,h1,h2.ext Z3.o (fun b hb=>by rw[hb];exact sub _ am) NE.o.2.2⟩,R2.o.bu.ext hS,⟨es',ck,HM3.o,(HSE.o.sub HK3.o.sub).ext hS,fun k hk1 hk2=>?_⟩,R2.o.qu.oK hS,R2.o.qc,R2.o.hd.ext hS,R2.o.hc,R2.o.num⟩;obtain⟨e,he,hek⟩:=HSK.o k hk1 hk2;exact⟨e,HK3.o.kept e he k hek (by rw[HNB.o,←HLN.o] at hk1;exact hk1),hek⟩)
 have M3:=aa (M2.o.rM Z3.o HM3.o.at_);have E3:=aa (show Ex A w w3 from((Ex.below D0.o).trans ((Ex.one G1.o).mono (fun b _ hb=>by rw[hb];exact aP))).trans ((Ex.below D2.o).trans (Z3.o.mono (fun b _ hb=>by rw[hb];exact am))));go_wp2_with fail;go_end0
 exact⟨rfl,aa ⟨M3.o,⟨g,ka,kn,kc,la,ln,lc,m,qa,qn,qc,ha,hn,hc,X3.o,R3.o,aP,ag,am,sub⟩,E3.o⟩⟩
end
section
open Go.RowKit Go.ChangeMaps
def eE (b:Bu) (p:Pf_):Bu:=if p.known=true∧p.queue.length=0 then Mx.cE b (p.goal:Int) else b
theorem vZ {b:Bu} {p:Pf_} (h:¬(p.known=true∧p.queue.length=0)):eE b p=b∧Mx.Mir.bQ p=p:=by
 unfold eE Mx.Mir.bQ;rw[if_neg h,if_neg h];exact⟨rfl,rfl⟩
theorem wa {b:Bu} {p:Pf_} (h:p.known=true∧p.queue.length=0):eE b p=Mx.cE b (p.goal:Int)∧Mx.Mir.bQ p={p with safe:=p.goal}:=by
 unfold eE Mx.Mir.bQ;rw[if_pos h,if_pos h];exact⟨rfl,rfl⟩
theorem PrD.same {A S:Nat→Prop} {w w':World} {P n:Nat} {ae:List (List B8)} {b:Bu} {p:Pf_} (hm:Mut S w) (hp:PrW A S w P n ae b p) (hb:Gq w w'):PrD A S w w' P n ae b p:=⟨hm.later hb,hp.later hb,Ex.below hb⟩
theorem xI (S:Nat→Prop) (b:Bu) (N:Nat) (hN:b.num=(N:Int)) (oa:Option Addr) (on oc:Nat) (sa:Option Addr) (sn sc:Nat) (n:Nat) (k:Nat) (w:World) (hm:Mut S w) (hb:Buo S w oa on oc sa sn sc b.op b.se) (hM:Mx.aK b n=0) (h1:k≤N) :
 Calls Tryz.prog 125 #[.agg #[.int .i64 (N:Int),.slice oa on oc,.slice sa sn sc,.bool b.be],.int .i64 (n:Int),.int .i64 (k:Int)] w fun e w' =>
  ∃ oa' on' oc' sa' sn' sc',e=.returned (.tuple #[.agg #[.int .i64 (N:Int),.slice oa' on' oc',.slice sa' sn' sc',.bool (Mx.cE b (k:Int)).be],.nilIface])∧Hid (Buo S w' oa' on' oc' sa' sn' sc' (Mx.cE b (k:Int)).op (Mx.cE b (k:Int)).se)∧Hid (Gq w w'):=by
 have h:=Am S b oa on oc sa sn sc n (k:Int) w hm hb hM (by omega) (by omega);rw[hN] at h;exact h
theorem zx (A S:Nat→Prop) (P n:Nat) (ae:List (List B8)) (b:Bu) (p:Pf_) (w:World) (hm:Mut S w) (hp:PrW A S w P n ae b p) (hk:¬(p.known=true∧p.queue.length=0)) :
 Calls Tryz.prog 91 #[.pointer (some ⟨P,0,none⟩)] w fun e w'=>e=.returned .nilIface∧Hid (PrD A S w w' P n ae (eE b p) (Mx.Mir.bQ p)):=by
 obtain⟨e1,e2⟩:=vZ (b:=b) hk;rw[e1,e2];have HP:=aa hp;have HM:=aa hm;obtain⟨g,oa,on,oc,sa,sn,sc,m,qa,qn,qc,ha,hn,hc,X⟩:=hp;obtain⟨x0,x1,x2,x3,x4,x5,x6,x7,x8,x9,x10,x11,x12,x13⟩:=X.bx.cells;have hq:p.queue.length=qn:=X.r.qu.1;clear X hm x0 x1 x2 x3 x4 x5 x6 x7 x8 x9 x12 x13 e1 e2;cases hkk:p.known with
 | false =>
  rw[hkk] at x11;clear hkk hk hq;go_enter Tryz.func91,Tryz.ntmps91;go_wp2_with fail;go_ret;exact⟨rfl,aa (PrD.same HM.o HP.o (Below.refl _ _))⟩
 | true =>
  rw[hkk] at x11;have hpos:0<qn:=by
   rcases Nat.eq_zero_or_pos qn with h|h
   ·exact absurd ⟨hkk,by rw[hq,h]⟩ hk
   ·exact h
  have hd1:decide ((0:Int)<(qn:Int))=true:=by simpa using hpos
  have hd2:decide (0<qn)=true:=by simpa using hpos
  clear hkk hk hq;go_enter Tryz.func91,Tryz.ntmps91;go_wp2_with fail;go_ret;exact⟨rfl,aa (PrD.same HM.o HP.o (Below.refl _ _))⟩
theorem wV (A S:Nat→Prop) (P n:Nat) (ae:List (List B8)) (b:Bu) (p:Pf_) (w:World) (hm:Mut S w) (hp:PrW A S w P n ae b p) (hb:Mx.aK b n=0) (hg:p.goal≤p.ar) (hh:(p.ar:Int)≤2147483647) (hk:p.known=true∧p.queue.length=0) :
 Calls Tryz.prog 91 #[.pointer (some ⟨P,0,none⟩)] w fun e w'=>e=.returned .nilIface∧Hid (PrD A S w w' P n ae (eE b p) (Mx.Mir.bQ p)):=by
 obtain⟨e1,e2⟩:=wa (b:=b) hk;rw[e1,e2];obtain⟨g,oa,on,oc,sa,sn,sc,m,qa,qn,qc,ha,hn,hc,X⟩:=hp;obtain⟨N,hN⟩:∃ N:Nat,Hid (N=p.ar):=⟨_,rfl⟩
 have HNB:=aa (show b.num=(N:Int) by rw[X.r.num,hN.o]);have HX:=aa X;have HMW:=aa hm;have NE:=aa X.ne;have HBM:=aa hb;have HG:=aa (show p.goal≤N by rw[hN.o];exact hg);have HH:=aa hh;have hPW:P<w.heap.size:=Bx.lt X.bx;have HLE:=aa (Mx.bM hb).2.1;obtain⟨be1,hbe1⟩:∃ be1:Bool,Hid (be1=(Mx.cE b (p.goal:Int)).be):=⟨_,rfl⟩
 obtain⟨x0,x1,x2,x3,x4,x5,x6,x7,x8,x9,x10,x11,x12,x13⟩:=X.bx.cells;rw[HNB.o] at x2;have hq:qn=0:=by rw[←X.r.qu.1];exact hk.2
 rw[hk.1] at x11;rw[hq] at x10;have HK:=aa hk;have HQ:=aa hq;clear X hm hb hg hh e1 e2 hk hq x0 x6 x7 x8 x9 x13;go_enter Tryz.func91,Tryz.ntmps91;go_upto_region 3 with fail
 clear x10 x11;have UB:=aa (show Buo S w.drew oa on oc sa sn sc b.op b.se from HX.o.r.bu.ext (Ex.below (Below.refl _ _).drew));have UA:=aa (show Buo (fun b=>S b∨b=w.heap.size) (w.alloc (.cells #[.int .i64 0,.slice none 0 0,.slice none 0 0,.bool false] 101)).drew oa on oc sa sn sc b.op b.se from(HX.o.r.bu.wd ((Wd.refl S w).add (Gi _))).ext (Ex.below (af _ _).drew));have hl0:P<w.heap.size:=(by assumption)
 have hf0:¬w.heap.size=P:=by omega
 have DA:=aa (show Gq w (w.alloc (.cells #[.int .i64 0,.slice none 0 0,.slice none 0 0,.bool false] 101)).drew from(af _ _).drew);have DB:=aa (show Gq w w.drew from(Below.refl _ _).drew);have XA:=aa (show Bx (w.alloc (.cells #[.int .i64 0,.slice none 0 0,.slice none 0 0,.bool false] 101)).drew w.heap.size #[.int .i64 0,.slice none 0 0,.slice none 0 0,.bool false] 101 from Bx.dj w _ _);have hSx:¬S w.heap.size:=fun hs=>by have:=HMW.o.lt _ hs;omega
 have MA:=aa (show Mut (fun b=>S b∨b=w.heap.size) (w.alloc (.cells #[.int .i64 0,.slice none 0 0,.slice none 0 0,.bool false] 101)).drew from(HMW.o.later DA.o).add XA.o (dB _ rfl));have MB:=aa (HMW.o.later DB.o);have WA:=aa (show Wd S (fun b=>S b∨b=w.heap.size) w from(Wd.refl S w).add (Gi _));go_region_held3 (fun w'=>w'.cell? ⟨P,1,none⟩=some (.int .i64 (n:Int))∧w'.cell? ⟨P,2,none⟩=some (.int .i64 (N:Int))∧w'.cell? ⟨P,3,none⟩=some (.slice oa on oc)∧w'.cell? ⟨P,4,none⟩=some (.slice sa sn sc)∧w'.cell? ⟨P,5,none⟩=some (.bool b.be)∧w'.cell? ⟨P,12,none⟩=some (.int .i64 (p.goal:Int)))
  (first
    | with_reducible exact ⟨x1, x2, x3, x4, x5, x12⟩
    |(simp only[an];with_reducible exact⟨x1,x2,x3,x4,x5,x12⟩)
    | with_reducible exact ⟨yx1, yx2, yx3, yx4, yx5, yx12⟩
    |(simp only[an,ao hl0];with_reducible exact⟨x1,x2,x3,x4,x5,x12⟩)
    |(simp only[ao hy0];with_reducible exact⟨yx1,yx2,yx3,yx4,yx5,yx12⟩)
    |(simp only[aw hf0];with_reducible exact⟨yx1,yx2,yx3,yx4,yx5,yx12⟩))
  (first
    |(go_at_call 125;(with_reducible refine(xI S b N HNB.o oa on oc sa sn sc n p.goal w.drew MB.o UB.o HBM.o HG.o).mono ?_);rintro e w2 ⟨ka,kn,kc,la,ln,lc,rfl,U2,E2⟩;have D2:=aa (show Gq w w2 from DB.o.trans (E2.o.mono DB.o.size));have yx1:=(D2.o.cell (p:=⟨P,1,none⟩) hl0).trans x1;have yx2:=(D2.o.cell (p:=⟨P,2,none⟩) hl0).trans x2;have yx3:=(D2.o.cell (p:=⟨P,3,none⟩) hl0).trans x3;have yx4:=(D2.o.cell (p:=⟨P,4,none⟩) hl0).trans x4;have yx5:=(D2.o.cell (p:=⟨P,5,none⟩) hl0).trans x5;have yx12:=(D2.o.cell (p:=⟨P,12,none⟩) hl0).trans x12;have hy0:P<w2.heap.size:=Gf hl0 D2.o.size;rw[←hbe1.o])
    |(go_at_call 125;(with_reducible refine(xI (fun b=>S b∨b=w.heap.size) b N HNB.o oa on oc sa sn sc n p.goal (w.alloc (.cells #[.int .i64 0,.slice none 0 0,.slice none 0 0,.bool false] 101)).drew MA.o UA.o HBM.o HG.o).mono ?_);rintro e w2 ⟨ka,kn,kc,la,ln,lc,rfl,U2,E2⟩;have D2:=aa (show Gq w w2 from DA.o.trans (E2.o.mono DA.o.size));have yx1:=(D2.o.cell (p:=⟨P,1,none⟩) hl0).trans x1;have yx2:=(D2.o.cell (p:=⟨P,2,none⟩) hl0).trans x2;have yx3:=(D2.o.cell (p:=⟨P,3,none⟩) hl0).trans x3;have yx4:=(D2.o.cell (p:=⟨P,4,none⟩) hl0).trans x4;have yx5:=(D2.o.cell (p:=⟨P,5,none⟩) hl0).trans x5;have yx12:=(D2.o.cell (p:=⟨P,12,none⟩) hl0).trans x12;have hy0:P<w2.heap.size:=Gf hl0 D2.o.size;rw[←hbe1.o];have X2:=aa (XA.o.later E2.o XA.o.lt);have zc0:w2.cell? ⟨w.heap.size,0,none⟩=some (.int .i64 0):=X2.o.cell 0;have zc1:w2.cell? ⟨w.heap.size,1,none⟩=some (.slice none 0 0):=X2.o.cell 1;have zc2:w2.cell? ⟨w.heap.size,2,none⟩=some (.slice none 0 0):=X2.o.cell 2;have zc3:w2.cell? ⟨w.heap.size,3,none⟩=some (.bool false):=X2.o.cell 3;have zz:=X2.o.frozen))
 all_goals
  first
   |(obtain⟨W3,hW3⟩:∃ W3:World,Hid (W3=w2.alloc (.cells #[.int .i64 (N:Int),.slice ka kn kc,.slice la ln lc,.bool be1] 101)):=⟨_,rfl⟩
     obtain⟨gx,hgx⟩:∃ gx:Nat,Hid (gx=w2.heap.size):=⟨_,rfl⟩
     have X3:=aa (show Bx W3 gx #[.int .i64 (N:Int),.slice ka kn kc,.slice la ln lc,.bool be1] 101 by rw[hW3.o,hgx.o];exact Bx.new w2 _ _);have F3:=beA hW3;have D3:=aa (show Gq w W3 from D2.o.trans (F3.o.mono D2.o.size));have U3:=aa (show Buo S W3 ka kn kc la ln lc (Mx.cE b (p.goal:Int)).op (Mx.cE b (p.goal:Int)).se from U2.o.ext (Ex.below F3.o));have hgw:w.heap.size≤gx:=by rw[hgx.o];exact D2.o.size
     rw[←hW3.o,←hgx.o])
   |(obtain⟨W3,hW3⟩:∃ W3:World,Hid (W3=((((w2.setCell ⟨w.heap.size,0,none⟩ (.int .i64 (N:Int))).setCell ⟨w.heap.size,1,none⟩ (.slice ka kn kc)).setCell ⟨w.heap.size,2,none⟩ (.slice la ln lc)).setCell ⟨w.heap.size,3,none⟩ (.bool be1))):=⟨_,rfl⟩
     obtain⟨gx,hgx⟩:∃ gx:Nat,Hid (gx=w.heap.size):=⟨_,rfl⟩
     have U3:=aa (show w2.grownBy W3 (some w.heap.size) by rw[hW3.o];exact ak (ak (ak (ak (aq _ _) _ _) _ _) _ _) _ _);have X3:=aa (show Bx W3 gx #[.int .i64 (N:Int),.slice ka kn kc,.slice la ln lc,.bool be1] 101 by rw[hW3.o,hgx.o];exact(((X2.o.set 0 _).set 1 _).set 2 _).set 3 _);have D3:=aa (show Gq w W3 from aM D2.o U3.o (Gi _));have Z3:=aa (show Ex (fun b=>b=w.heap.size) w2 W3 from Ex.one U3.o);have U3:=aa (show Buo S W3 ka kn kc la ln lc (Mx.cE b (p.goal:Int)).op (Mx.cE b (p.goal:Int)).se from(U2.o.ext (Z3.o.mono (fun b _ hb=>.inr hb))).wd (fun b _ hs=>.inl hs));have hgw:w.heap.size≤gx:=by rw[hgx.o];exact Gi _
     rw[←hW3.o,←hgx.o])
  clear x1 x2 x3 x4 x5 x12 yx1 yx2 yx3 yx4 yx5 yx12;try clear zc0 zc1 zc2 zc3 zz
  have X4:=aa (HX.o.later D3.o);have M4:=aa (HMW.o.later D3.o);have hgP:¬gx=P:=by omega
  have hgP2:¬P=gx:=by omega
  obtain⟨x0,x1,x2,x3,x4,x5,x6,x7,x8,x9,x10,x11,x12,x13⟩:=X4.o.bx.cells;have xz:=Bx.frozen X4.o.bx;clear x0 x1 x2 x3 x4 x5 x6 x8 x9 x10 x11 x13;obtain⟨W5,hW5⟩:∃ W5:World,Hid (W5=W3.setCell ⟨P,7,none⟩ (.int .i64 (p.goal:Int))):=⟨_,rfl⟩
  have G5:=aa (show W3.grownBy W5 (some P) by rw[hW5.o];exact ak (aq _ _) _ _);have Z5:=aa (Ex.one G5.o);have X5:=aa (show Pbx W5 P g n b.num oa on oc sa sn sc b.be m (p.goal:Int) (p.s:Int) (p.base:Int) qa qn qc p.known (p.goal:Int) ha hn hc by rw[hW5.o];exact Bx.set X4.o.bx 7 _);have B5:=aa (Ex.bx Z5.o X3.o hgP);have M5:=aa (M4.o.dZ Z5.o X5.o fm);have hS5:Hid (Ex S W3 W5):=aa (Z5.o.mono (fun b _ hb=>by rw[hb];exact X4.o.sub _ X4.o.aP));have R5:=aa (show PrR S W5 n ae (Mx.cE b (p.goal:Int)) {p with safe:=p.goal} g ka kn kc la ln lc m qa qn qc ha hn hc from by
   have hr:=X4.o.r.ext Z5.o (fun b hb=>by rw[hb];exact X4.o.sub _ X4.o.aP) (fun e=>NE.o.1 e.symm) (fun e=>NE.o.2.1 e.symm);refine⟨hr.nd,U3.o.ext hS5.o,hr.mp.low ?_,hr.qu,hr.qc,hr.hd,hr.hc,hr.num⟩;have h1:(Mx.aJ b (p.goal:Int)).length≤b.se.length:=by unfold Mx.aJ;rw[List.length_drop];omega
   show b.num-(b.se.length:Int)≤b.num-((Mx.aJ b (p.goal:Int)).length:Int)
   omega)
  go_upto_region 7 with fail
  rw[←hW5.o];clear x7 x12 xz;obtain⟨t0,t1,t2,t3⟩:=Bx.four B5.o;go_wp2_with fail;have hl4:(Mx.cE b (p.goal:Int)).se.length≤4:=by
   have h1:(Mx.aJ b (p.goal:Int)).length≤b.se.length:=by unfold Mx.aJ;rw[List.length_drop];omega
   have h2:=HLE.o;show(Mx.aJ b (p.goal:Int)).length≤4
   omega
  have HKP:=sG A S P n ae (Mx.cE b (p.goal:Int)) {p with safe:=p.goal} W5 M5.o g b.num oa on oc sa sn sc b.be ka kn kc la ln lc m qa qn qc ha hn hc X5.o R5.o X4.o.aP X4.o.ag X4.o.am X4.o.sub HH.o hl4;have hk1:(Mx.cE b (p.goal:Int)).num=(N:Int):=HNB.o;rw[hk1,←hbe1.o] at HKP;clear hk1 hl4;refine HKP.mono ?_;clear HKP;rintro e w8 ⟨rfl,P8⟩;clear t0 t1 t2 t3;go_wp2_with fail;have E8:=aa (show Ex A w w8 from(Ex.below D3.o).trans ((Z5.o.mono (fun b _ hb=>by rw[hb];exact X4.o.aP)).trans P8.o.ext));exact bodyPost_ret (v:=.nilIface) (by simp[results,Tryz.results91,go_sem]) rfl ⟨rfl,aa ⟨P8.o.mu,P8.o.pr,E8.o⟩⟩
theorem gC (A S:Nat→Prop) (P n:Nat) (ae:List (List B8)) (b:Bu) (p:Pf_) (w:World) (hm:Mut S w) (hp:PrW A S w P n ae b p) (hb:Mx.aK b n=0) (hg:p.known=true→p.goal≤p.ar) (hh:(p.ar:Int)≤2147483647) :
 Calls Tryz.prog 91 #[.pointer (some ⟨P,0,none⟩)] w fun e w'=>e=.returned .nilIface∧Hid (PrD A S w w' P n ae (eE b p) (Mx.Mir.bQ p)):=by
 by_cases hk:p.known=true∧p.queue.length=0
 ·exact wV A S P n ae b p w hm hp hb (hg hk.1) hh hk
 ·exact zx A S P n ae b p w hm hp hk
end
section
open Go.RowKit Go.ChangeMaps
def lZ (w:World) (P:Nat) (v0 v1 v2 v3 v4 v5 v6 v7 v8 v9 Kf Jm Jn Jp:Value):World:=(((((((((((((w.setCell ⟨P,0,none⟩ (v0)).setCell ⟨P,1,none⟩ (v1)).setCell ⟨P,2,none⟩ (v2)).setCell ⟨P,3,none⟩ (v3)).setCell ⟨P,4,none⟩ (v4)).setCell ⟨P,5,none⟩ (v5)).setCell ⟨P,6,none⟩ (v6)).setCell ⟨P,7,none⟩ (v7)).setCell ⟨P,8,none⟩ (v8)).setCell ⟨P,9,none⟩ (v9)).setCell ⟨P,10,none⟩ (Kf)).setCell ⟨P,11,none⟩ (Jm)).setCell ⟨P,12,none⟩ (Jn)).setCell ⟨P,13,none⟩ (Jp)
theorem ue (w:World) (P:Nat) (v0 v1 v2 v3 v4 v5 v6 v7 v8 v9 Kf Jm Jn Jp:Value):w.grownBy (lZ w P v0 v1 v2 v3 v4 v5 v6 v7 v8 v9 Kf Jm Jn Jp) (some P):=ak (ak (ak (ak (ak (ak (ak (ak (ak (ak (ak (ak (ak (ak (aq w _) _ _) _ _) _ _) _ _) _ _) _ _) _ _) _ _) _ _) _ _) _ _) _ _) _ _) _ _
theorem Bx.lZ {w:World} {P:Nat} {cs:Array Value} {t:TypeId} (h:Bx w P cs t) (hs:cs.size=14) (v0 v1 v2 v3 v4 v5 v6 v7 v8 v9 Kf Jm Jn Jp:Value):Bx (lZ w P v0 v1 v2 v3 v4 v5 v6 v7 v8 v9 Kf Jm Jn Jp) P #[v0,v1,v2,v3,v4,v5,v6,v7,v8,v9,Kf,Jm,Jn,Jp] t:=by
 have h2:=(((((((((((((h.set 0 v0).set 1 v1).set 2 v2).set 3 v3).set 4 v4).set 5 v5).set 6 v6).set 7 v7).set 8 v8).set 9 v9).set 10 Kf).set 11 Jm).set 12 Jn).set 13 Jp;have e:((((((((((((((cs.setIfInBounds 0 v0).setIfInBounds 1 v1).setIfInBounds 2 v2).setIfInBounds 3 v3).setIfInBounds 4 v4).setIfInBounds 5 v5).setIfInBounds 6 v6).setIfInBounds 7 v7).setIfInBounds 8 v8).setIfInBounds 9 v9).setIfInBounds 10 Kf).setIfInBounds 11 Jm).setIfInBounds 12 Jn).setIfInBounds 13 Jp)=#[v0,v1,v2,v3,v4,v5,v6,v7,v8,v9,Kf,Jm,Jn,Jp]:=by
  apply Array.ext_getElem?;intro i
  match i with
  | 0 | 1 | 2 | 3 | 4 | 5 | 6 | 7 | 8 | 9 | 10 | 11 | 12 | 13 => simp [hs]
  | i + 14 =>
   rw[Array.getElem?_eq_none (by simp[hs]),Array.getElem?_eq_none (by simp)]
 rw[e] at h2;exact h2
structure PrB (A S:Nat→Prop) (w w':World) (P n:Nat) (ae:List (List B8)) (b:Bu) (p:Pf_) (N:Nat→Prop):Prop where
 new:∀ b,N b→w.heap.size≤b
 mu:Mut (fun b=>S b∨N b) w'
 pr:PrW (fun b=>A b∨N b) (fun b=>S b∨N b) w' P n ae b p
 ext:Ex A w w'
theorem pX (A S:Nat→Prop) (P n:Nat) (ae:List (List B8)) (w:World) (hm:Mut S w) (g:Nat) (cs:Array Value) (hx:Bx w P cs 107) (hc0:cs[0]?=some (.pointer (some ⟨g,0,none⟩))) (hc1:cs[1]?=some (.int .i64 (n:Int))) (hcs:cs.size=14) (hv s0:Nat) (bl:List B8) (hbl:ae[hv]?=some bl) (hnd:Nd S w g n bl (hv:Int) (s0:Int)) (aP:A P) (sub:∀ b,A b→S b) (hs:((s0+1:Nat):Int)≤2147483647) (hh:(hv:Int)≤2147483647) :
 Calls Tryz.prog 33 #[.pointer (some ⟨P,0,none⟩)] w fun e w'=>e=.returned .nilIface∧Hid (∃ N,PrB A S w w' P n ae ⟨(hv:Int),[],[],false⟩ ⟨hv,s0+1,0,false,0,0,[],[]⟩ N):=by
 have x0:w.cell? ⟨P,0,none⟩=some (.pointer (some ⟨g,0,none⟩)):=(hx.cell 0).trans hc0;have x1:w.cell? ⟨P,1,none⟩=some (.int .i64 (n:Int)):=(hx.cell 1).trans hc1;have HX:=aa hx;have HM:=aa hm;have HCS:=aa hcs;have HBL:=aa hbl;have HND:=aa hnd;have HS:=aa hs;have HH:=aa hh;clear hx hm hc0 hc1 hcs hbl hnd hs;go_enter Tryz.func33,Tryz.ntmps33;go_wp2_with fail;refine(oD S g n bl (hv:Int) (s0:Int) w HM.o HND.o).mono ?_;rintro e w1 ⟨g',rfl,N1,E1⟩;clear x0 x1;obtain⟨W2,hW2⟩:∃ W2:World,Hid (W2=w1.alloc (.cells #[.pointer (some ⟨g',0,none⟩),.int .i64 (n:Int)] 87)):=⟨_,rfl⟩
 have B2:=bxA hW2;have D2:=beA hW2;have N2:=aa (N1.o.later D2.o);have F2:=aa (show Gq w W2 from E1.o.trans (D2.o.mono E1.o.size));go_upto_region 2 with fail
 rw[←hW2.o];obtain⟨b0,b1⟩:=B2.o.pair;go_upto_region 4 with fail
 go_wp2_with fail;refine(fj _ g' n bl (hv:Int) (s0:Int) W2 N2.o.2.2).mono ?_;rintro e w3 ⟨rfl,E3⟩;have B3:=aa (B2.o.later E3.o B2.o.lt);have N3:=aa (N2.o.later E3.o);have F3:=aa (show Gq w w3 from F2.o.trans (E3.o.mono F2.o.size));clear b0 b1;obtain⟨b0,b1⟩:=B3.o.pair;go_upto_region 7 with fail
 go_wp2_with fail;refine(lW _ g' n bl (hv:Int) (s0:Int) w3 N3.o.2.2).mono ?_;rintro e w4 ⟨q,rfl,O4,E4⟩;have B4:=aa (B3.o.later E4.o B3.o.lt);have N4:=aa (N3.o.later E4.o);have F4:=aa (show Gq w w4 from F3.o.trans (E4.o.mono F3.o.size));clear b0 b1;obtain⟨b0,b1⟩:=B4.o.pair;obtain⟨QB,hQC⟩:=au.blo O4.o N3.o.2.1 (Gi _);have HQB:=aa QB;clear QB;have X4:=aa (HX.o.later F4.o HX.o.lt);have hmm:(Instr.makeMap 102 none).run Tryz.prog w4=.ok (.map (some w4.heap.size)) (w4.alloc (.map #[] 0)):=run_makeMap _ w4;obtain⟨W5,hW5⟩:∃ W5:World,Hid (W5=w4.alloc (.map #[] 0)):=⟨_,rfl⟩
 rw[←hW5.o] at hmm;have D5:=beA hW5;have P5:=aa (show Mp 3 W5 w4.heap.size [] 0 from⟨by rw[hW5.o];exact heap_alloc_new w4 _,fun e he=>by simp at he,by simp,by simp,fun e he=>by simp at he⟩);obtain⟨m',hm'⟩:∃ m':Nat,Hid (m'=w4.heap.size):=⟨_,rfl⟩
 rw[←hm'.o] at hmm P5;obtain⟨W6,hW6⟩:∃ W6:World,Hid (W6=setBlock W5 m' (.map (eT [] (.int .i64 (hv:Int)) (.slice (some ⟨q,0,none⟩) n n) 0).toArray (0+1))):=⟨_,rfl⟩
 have hmu:(Instr.mapUpdate 102 (.map (some m')) (.int .i64 (hv:Int)) (.slice (some ⟨q,0,none⟩) n n)).run Tryz.prog W5=.ok () W6:=by
  rw[hW6.o];exact Mp.qx eM Tryz.underlying102 P5.o (fw (by omega) HH.o) (fun e he=>by simp at he) _
 have G6:=aa (show W5.grownBy W6 (some m') by rw[hW6.o];exact fC _);have Z6:=aa (Ex.one G6.o);have A6:=aa (show W6.heap[m']?=some (.map (eT [] (.int .i64 (hv:Int)) (.slice (some ⟨q,0,none⟩) n n) 0).toArray (0+1)) by rw[hW6.o];exact fM P5.o.ltm _);have hml:w4.heap.size≤m':=by rw[hm'.o];exact Gi _
 have X5:=aa (X4.o.later D5.o X4.o.lt);have hPm:P≠m':=by have h1:=X4.o.lt;omega
 have X6:=aa (Ex.bx Z6.o X5.o hPm);have hgm:g'≠m':=by
  obtain⟨_,_,_,_,_,_,_,T4,_⟩:=N4.o.2.2;have h1:=T4.bx.lt;omega
 have hSS:(fun b=>(S b∨b=g')∨b=m')=(fun b=>S b∨(b=g'∨b=m')):=funext fun b=>propext or_assoc
 have hgw:w.heap.size≤g':=N1.o.1;have hF4:w.heap.size≤w4.heap.size:=F4.o.size;have hPw:P<w.heap.size:=HX.o.lt;have M5:=aa (show Mut (fun b=>S b∨(b=g'∨b=m')) W5 by rw[←hSS];exact(N4.o.2.1.later D5.o).Ej P5.o.at_);have V5:=aa (show Nd (fun b=>S b∨(b=g'∨b=m')) W5 g' n bl (hv:Int) (s0:Int) by rw[←hSS];exact(N4.o.2.2.wd ((Wd.refl _ _).add hml) (.inl (.inr rfl))).later D5.o);have Q5:=aa (show BLo (fun b=>S b∨(b=g'∨b=m')) W5 (some ⟨q,0,none⟩) n bl by rw[←hSS];exact(HQB.o.wd ((Wd.refl _ _).add hml)).ext (Ex.below D5.o));have hT6:∀ b,b=m'→S b∨(b=g'∨b=m'):=fun b hb=>.inr (.inr hb)
 have M6:=aa (M5.o.rM Z6.o A6.o);have V6:=aa (V5.o.ext Z6.o hT6 hgm);have Q6:=aa (Q5.o.ext (Z6.o.mono (fun b _ hb=>hT6 b hb)));obtain⟨W7,hW7⟩:∃ W7:World,Hid (W7=lZ W6 P (.pointer (some ⟨g',0,none⟩)) (.int .i64 (n:Int)) (.int .i64 (hv:Int)) (.slice none 0 0) (.slice none 0 0) (.bool false) (.map (some m')) (.int .i64 0) (.int .i64 0) (.int .i64 0) (.slice none 0 0) (.bool false) (.int .i64 0) (.slice none 0 0)):=⟨_,rfl⟩
 have G7:=aa (show W6.grownBy W7 (some P) by rw[hW7.o];exact ue _ _ _ _ _ _ _ _ _ _ _ _ _ _ _ _);have Z7:=aa (Ex.one G7.o);have X7:=aa (show Pbx W7 P g' n (hv:Int) none 0 0 none 0 0 false m' 0 0 0 none 0 0 false 0 none 0 0 by rw[hW7.o];exact X6.o.lZ HCS.o _ _ _ _ _ _ _ _ _ _ _ _ _ _);have hT7:∀ b,b=P→S b∨(b=g'∨b=m'):=fun b hb=>.inl (by rw[hb];exact sub _ aP)
 have hgP:g'≠P:=by omega
 have M7:=aa (M6.o.dZ Z7.o X7.o fm);have V7:=aa (V6.o.ext Z7.o hT7 hgP);have Q7:=aa (Q6.o.ext (Z7.o.mono (fun b _ hb=>hT7 b hb)));have S7:=aa (show Snp (fun b=>S b∨(b=g'∨b=m')) W7 m' n ae ((hv:Int)-(([]:List Ep).length:Int)) hv from by
  refine⟨eT [] (.int .i64 (hv:Int)) (.slice (some ⟨q,0,none⟩) n n) 0,0+1,P5.o.push (fw (by omega) HH.o) (fun e he=>by simp at he) _ ((Z7.o.block m' (Array.getElem?_eq_some_iff.1 A6.o).1 (fun e=>hPm e.symm)).trans A6.o),fun e he=>?_,fun k hk1 hk2=>?_⟩
  ·have he':e=⟨.int .i64 (hv:Int),.slice (some ⟨q,0,none⟩) n n,0⟩:=by simpa [eT] using he
   rw[he'];exact⟨hv,bl,_,n,rfl,Gi _,HBL.o,rfl,Q7.o,hQC⟩
  ·have hk:k=hv:=by simp at hk1;omega
   subst hk;exact⟨⟨.int .i64 (k:Int),.slice (some ⟨q,0,none⟩) n n,0⟩,by simp[eT],rfl⟩)
 unfold lZ at hW7;have y:=X6.o.frozen;have hPc:∀ j,j<14→∃ v,W6.cell? ⟨P,j,none⟩=some v:=fun j hj=>⟨_,(X6.o.cell j).trans (Array.getElem?_eq_getElem (by rw[HCS.o];exact hj))⟩
 obtain⟨o0,p0⟩:=hPc 0 (by omega);obtain⟨o1,p1⟩:=hPc 1 (by omega);obtain⟨o2,p2⟩:=hPc 2 (by omega);obtain⟨o3,p3⟩:=hPc 3 (by omega);obtain⟨o4,p4⟩:=hPc 4 (by omega);obtain⟨o5,p5⟩:=hPc 5 (by omega);obtain⟨o6,p6⟩:=hPc 6 (by omega);obtain⟨o7,p7⟩:=hPc 7 (by omega);obtain⟨o8,p8⟩:=hPc 8 (by omega);obtain⟨o9,p9⟩:=hPc 9 (by omega);obtain⟨o10,p10⟩:=hPc 10 (by omega);obtain⟨o11,p11⟩:=hPc 11 (by omega);obtain⟨o12,p12⟩:=hPc 12 (by omega);obtain⟨o13,p13⟩:=hPc 13 (by omega);go_upto_region 10 with fail
 go_upto_region 11 with fail
 rw[←hW7.o];clear b0 b1 hmm hmu y p0 p1 p2 p3 p4 p5 p6 p7 p8 p9 p10 p11 p12 p13;have hs2:(s0:Int)+1≤2147483647:=by have h9:=HS.o;omega
 go_wp2_with fail;have HO:=pZ (fun b=>A b∨(b=g'∨b=m')) (fun b=>S b∨(b=g'∨b=m')) P n ae ⟨(hv:Int),[],[],false⟩ W7 M7.o g' none 0 0 none 0 0 m' none 0 0 none 0 0 hv 0 0 0 0 false (s0:Int) X7.o bl HBL.o V7.o (Buo.nil _ _) S7.o rfl (.inl aP) (.inr (.inl rfl)) (.inr (.inr rfl)) (fun b hb=>by
  rcases hb with hb|hb
  ·exact .inl (sub b hb)
  ·exact .inr hb) ⟨fun e=>hgP e.symm,hPm,hgm⟩ (s0+1) HS.o HH.o
 have hc:((s0+1:Nat):Int)=(s0:Int)+1:=by push_cast;rfl
 rw[hc] at HO;refine HO.mono ?_;clear HO;rintro e w8 ⟨rfl,P8⟩;go_wp2_with fail;have E8:=aa (show Ex A w w8 from((((Ex.below F4.o).chain (Ex.below (S:=fun _=>False) D5.o) (fun _ _ h=>h.elim)).chain Z6.o (fun b hb e=>by omega)).chain Z7.o (fun b _ e=>by rw[e];exact aP)).chain P8.o.ext (fun b hb e=>by
  rcases e with e|e
  ·exact e
  ·omega))
 exact bodyPost_ret (v:=.nilIface) (by simp[results,Tryz.results33,go_sem]) rfl ⟨rfl,aa ⟨fun b=>b=g'∨b=m',⟨fun b hb=>by rcases hb with hb|hb<;>omega,P8.o.mu,P8.o.pr,E8.o⟩⟩⟩
theorem qI (S:Nat→Prop) (n:Nat) (w:World) (hm:Mut S w) (h1:1≤n) (h2:n≤32) :
 Calls Tryz.prog 23 #[.int .i64 (n:Int)] w fun e w'=>∃ P,e=.returned (.tuple #[.pointer (some ⟨P,0,none⟩),.nilIface])∧Hid (∃ N:Nat→Prop,(∀ b,N b→w.heap.size≤b)∧Mut (fun b=>S b∨N b) w'∧PrW N (fun b=>S b∨N b) w' P n [List.replicate n zB] ⟨0,[],[],false⟩ ⟨0,1,0,false,0,0,[],[]⟩)∧Hid (Gq w w'):=by
 have HM:=aa hm;clear hm;go_enter Tryz.func23,Tryz.ntmps23;go_wp2_with fail;refine(nQ S n w HM.o h1 h2).mono ?_;rintro e w1 ⟨g,rfl,N1,E1⟩;obtain⟨W2,hW2⟩:∃ W2:World,Hid (W2=w1.alloc (.cells #[.pointer (some ⟨g,0,none⟩),.int .i64 (n:Int)] 87)):=⟨_,rfl⟩
 have B2:=bxA hW2;have D2:=beA hW2;go_upto_region 2 with fail
 rw[←hW2.o];obtain⟨b0,b1⟩:=B2.o.pair;go_upto_region 4 with fail
 obtain⟨W3,hW3⟩:∃ W3:World,Hid (W3=W2.alloc (.cells #[.pointer (some ⟨g,0,none⟩),.int .i64 (n:Int),.int .i64 0,.slice none 0 0,.slice none 0 0,.bool false,.map none,.int .i64 0,.int .i64 0,.int .i64 0,.slice none 0 0,.bool false,.int .i64 0,.slice none 0 0] 107)):=⟨_,rfl⟩
 have D3:=beA hW3;have X3:=bxA hW3;obtain⟨P,hP⟩:∃ P:Nat,Hid (P=W2.heap.size):=⟨_,rfl⟩
 rw[←hP.o] at X3;have N3:=aa ((N1.o.later D2.o).later D3.o);have F3:=aa (show Gq w W3 from(E1.o.trans (D2.o.mono E1.o.size)).trans (D3.o.mono (Gn E1.o.size D2.o.size)));have hPl:w.heap.size≤P:=by have h3:=hP.o;have h4:=E1.o.size;have h5:=D2.o.size;omega
 have hgl:w.heap.size≤g:=N1.o.1;have hgP:P≠g:=by
  obtain⟨_,_,_,_,_,_,_,T4,_⟩:=N1.o.2.2;have h4:=T4.bx.lt;have h3:=hP.o;have h5:=D2.o.size;omega
 have hSS:(fun b=>(S b∨b=g)∨b=P)=(fun b=>S b∨(b=g∨b=P)):=funext fun b=>propext or_assoc
 have M3:=aa (show Mut (fun b=>S b∨(b=g∨b=P)) W3 by rw[←hSS];exact N3.o.2.1.add X3.o (dB _ rfl));have V3:=aa (show Nd (fun b=>S b∨(b=g∨b=P)) W3 g n (List.replicate n zB) ((0:Nat):Int) ((0:Nat):Int) by
  rw[←hSS];have h3:=(N1.o.2.2.later D2.o).wd (S':=fun b=>(S b∨b=g)∨b=P) ((Wd.refl _ _).add (by have h4:=hP.o;omega)) (.inl (.inr rfl));exact h3.later D3.o)
 go_upto_region 5 with fail
 rw[←hW3.o,←hP.o];clear b0 b1;go_wp2_with fail;refine(pX (fun b=>b=g∨b=P) (fun b=>S b∨(b=g∨b=P)) P n [List.replicate n zB] W3 M3.o g _ X3.o rfl rfl rfl 0 0 (List.replicate n zB) rfl V3.o (.inr rfl) (fun b hb=>.inr hb) (by omega) (by omega)).mono ?_;rintro e w4 ⟨rfl,P4⟩;go_wp2_with fail;obtain⟨N,h3,h4,h5,h6⟩:=P4.o;have hT:(fun b=>(S b∨(b=g∨b=P))∨N b)=(fun b=>S b∨((b=g∨b=P)∨N b)):=funext fun b=>propext or_assoc
 rw[hT] at h4 h5;have hbe:Gq w w4:=F3.o.trans ((h6.toBelow_of (B:=w.heap.size) F3.o.size (fun b hb=>by
  rcases hb with hb|hb<;>omega)))
 exact bodyPost_ret (v:=.tuple #[.pointer (some ⟨P,0,none⟩),.nilIface]) (by simp[results,Tryz.results23,go_sem]) rfl ⟨P,rfl,aa ⟨fun b=>(b=g∨b=P)∨N b,fun b hb=>by
  rcases hb with (hb|hb)|hb
  ·omega
  ·omega
  ·exact Gn F3.o.size (h3 b hb),h4,h5⟩,aa hbe⟩
end
section
open Go.RowKit Go.ChangeMaps
theorem Tryz.infoBs:(Tryz.prog.info? 38).map (fun i=>(i.zero,i.size,i.bytes))=some (some (.slice none 0 0),1,24):=by kernel_rfl
theorem oh (w:World):(zeroValue 38).run Tryz.prog w=.ok (.slice none 0 0) w:=by
 obtain⟨i0,hi,hz0,_⟩:=info_parts Tryz.infoBs;simp[zeroValue,typeInfo,hi,hz0]
theorem l8 {w:World} {g o i:Nat} (h:o≠i) (v:Value):(w.setCell ⟨g,o,none⟩ v).cell? ⟨g,i,none⟩=w.cell? ⟨g,i,none⟩:=World.cell?_setCell_other _ _ _ _ (fun e=>h (by cases e;rfl))
theorem lT (S:Nat→Prop) (b:Bu) (N:Nat) (hN:b.num=(N:Int)) (oa:Option Addr) (on oc:Nat) (sa:Option Addr) (sn sc:Nat) (n:Nat) (k:Nat) (w:World) (hm:Mut S w) (hb:Buo S w oa on oc sa sn sc b.op b.se) (hM:Mx.aK b n=0) (h1:k≤N) (r:Bool) (hr:Mx.cn b n (k:Int)=r) (EN:Int) (hEN:EN=(Mx.bF b n (k:Int)).num) :
 Calls Tryz.prog 134 #[.agg #[.int .i64 (N:Int),.slice oa on oc,.slice sa sn sc,.bool b.be],.int .i64 (n:Int),.int .i64 (k:Int)] w fun e w' =>
  ∃ pa pn pk,e=.returned (.tuple #[.agg #[.int .i64 EN,.slice pa pn pk],.bool r,.nilIface])∧Hid (PLo S w' pa pn (Mx.bF b n (k:Int)).aI)∧Hid (Gq w w'):=by
 have h:=Ad b.num oa on oc sa sn sc b.be b.op b.se n (k:Int) w hb.op.1 hb.se.el (fq hM) hb.sc;rw[hN] at h;refine h.mono ?_;rintro e w' ⟨pa,pn,pk,rfl,h2,h3⟩;have e0:(⟨(N:Int),b.op,b.se,b.be⟩:Bu)=b:=by rw[←hN]
 rw[e0] at h2;rw[e0,hr,←hEN,Mx.nR (k:=(k:Int)) hM (by omega)];exact⟨pa,pn,pk,rfl,aa ⟨h2.o.1,fun _ p hp hs=>by have h9:=h2.o.2 p hp;have h8:=hm.lt _ hs;omega⟩,h3⟩
theorem up6 {A S:Nat→Prop} {P n:Nat} {ae:List (List B8)} {b:Bu} {p:Pf_} {w V:World} {ub N:Nat} {frm:Int} {va ea:Option Addr} {vn vc ec:Nat} {ps:List Pt} {peer:List B8} {g:Nat} {oa:Option Addr} {on oc:Nat} {sa:Option Addr} {sn sc:Nat} {m:Nat} {qa0:Option Addr} {qn0 qc0:Nat} {ha:Option Addr} {hn hc:Nat} (XV:Hid (PrX A S V P n ae b p g oa on oc sa sn sc m qa0 qn0 qc0 ha hn hc)) (KV:Hid (Bx V ub #[.int .i64 frm,.int .i64 (N:Int),.slice none 0 0] 213)) (RV:Hid (Bx V w.heap.size #[.int .i64 0,.int .i64 0,.slice none 0 0] 213)) (FV:Hid (Gq w V)) (hubw:w.heap.size<ub) (_hub:¬ub=P) (PV:Hid (PL V va vn ps)) (QV:Hid (BL V ea n peer)) (hvn:vn≤1000) (hn1:1≤n) (hn32:n≤32) (HMY:Hid (Mx.bT p.had=0)) (HRS:Hid (Mx.fP n ps=0)) {u1 u5 u6 u7 Iy Il Iv Ik Ho Gv Gw Gx Gy Gz GC GD GH GI GJ GK GL GM GO GP GQ GR GS GU GV GX GY GZ Ha Hb Hc He Hf Hg Hh Hi Hj Hk Hl Hm Hn Hp Hq Hr Hs Ht Ia Ib Ic Ie Ig Ih Ii Ij Iw Ix Iz IA IB IC ID IE IG IH II IJ IK IL IM IN IP IQ IS:Value} :
 aB Tryz.f112 (fun e w'=>∃ qa qn qc,e=.returned (.tuple #[.agg #[.int .i64 frm,.int .i64 (N:Int),.slice qa qn qc],.nilIface])∧Hid (cL w' w.heap.size (.slice qa qn qc) (Mx.pks peer p.had ps))∧Hid (Gq w w')) 6 ⟨#[.pointer (some ⟨P,0,none⟩),u1,.pointer (some ⟨w.heap.size,0,none⟩),.nilIface,.pointer (some ⟨ub,0,none⟩),u5,u6,u7,.slice va vn vc,.slice ea n ec,Iy,Il,Iv,Ik,Ho,Gv,Gw,Gx,Gy,Gz,GC,GD,GH,GI,GJ,GK,GL,GM,GO,GP,GQ,GR,GS,GU,GV,GX,GY,GZ,Ha,Hb,Hc,He,Hf,Hg,Hh,Hi,Hj,Hk,Hl,Hm,Hn,Hp,Hq,Hr,Hs,Ht,Ia,Ib,Ic,Ie,Ig,Ih,Ii,Ij,Iw,Ix,Iz,IA,IB,IC,ID,IE,IG,IH,II,IJ,IK,IL,IM,IN,IP,IQ,IS],[]⟩ V:=by
 refine aj rfl ?_;intro K hK;obtain⟨k0,k1,k2⟩:=KV.o.three;have kz:=KV.o.frozen;have x13:=XV.o.bx.cells.2.2.2.2.2.2.2.2.2.2.2.2.2;go_wp2_with fail;refine(tT va ea ha vn vc n ec hn hc ps peer p.had V PV.o QV.o XV.o.r.hd.1 XV.o.r.hc (by omega) hvn (by unfold Mx.gD;rw[if_neg (by omega)];exact HMY.o) HRS.o).mono ?_;rintro e w8 ⟨qa,qc,rfl,Q8,E8⟩;obtain⟨QN,hQN⟩:∃ QN:Nat,Hid (QN=(Mx.pks peer p.had ps).length):=⟨_,rfl⟩
 rw[←hQN.o] at Q8;rw[←hQN.o];have K8:=aa (KV.o.later E8.o KV.o.lt);have R8:=aa (RV.o.later E8.o RV.o.lt);have F8:=aa (show Gq w w8 from FV.o.trans (E8.o.mono FV.o.size));clear k0 k1 k2 kz x13;obtain⟨k0,k1,k2⟩:=K8.o.three;have kz:=K8.o.frozen;obtain⟨W9,hW9⟩:∃ W9:World,Hid (W9=w8.setCell ⟨ub,2,none⟩ (.slice qa QN qc)):=⟨_,rfl⟩
 have G9:=aa (show w8.grownBy W9 (some ub) by rw[hW9.o];exact ak (aq _ _) _ _);have K9:=aa (show Bx W9 ub #[.int .i64 frm,.int .i64 (N:Int),.slice qa QN qc] 213 by rw[hW9.o];exact K8.o.set 2 _);have R9:=aa (R8.o.grow G9.o (fun e=>by have h9:=Gg e;omega));have Q9:=aa (show cL W9 w.heap.size (.slice qa QN qc) (Mx.pks peer p.had ps) by
  rw[hW9.o];exact az (World.ownsRow.mono Q8.o FV.o.size) _ _ (aX Q8.o K8.o (by decide)))
 have F9:=aa (show Gq w W9 from aM F8.o G9.o (by omega));go_upto_region 9 with fail
 rw[←hW9.o];go_wp2_with fail;clear k0 k1 k2 kz;refine Met.intro (aL (c:=.seq _ .ret) rfl ?_);try clear hK K
 obtain⟨k0,k1,k2⟩:=K9.o.three;obtain⟨r0,r1,r2⟩:=R9.o.three;have rz:=R9.o.frozen;have hne1:¬ub=w.heap.size:=by omega
 have hne2:¬w.heap.size=ub:=by omega
 go_wp2_with fail;have XF:=aa (R9.o.aH (.int .i64 frm) (.int .i64 (N:Int)) (.slice qa QN qc));have n9:=aX Q9.o R9.o (by decide);have OF:=aa (show cL (ca W9 w.heap.size (.int .i64 frm) (.int .i64 (N:Int)) (.slice qa QN qc)) w.heap.size (.slice qa QN qc) (Mx.pks peer p.had ps) from az (az (az Q9.o _ _ n9) _ _ n9) _ _ n9);obtain⟨t0,t1,t2⟩:=XF.o.three;exact bodyPost_ret (v:=.tuple #[.agg #[.int .i64 frm,.int .i64 (N:Int),.slice qa QN qc],.nilIface]) (by simp[results,Tryz.results112,go_sem,t0,t1,t2]) rfl ⟨qa,QN,qc,rfl,OF,aa (aF F9.o (Gi _) _ _ _)⟩
theorem qN (A S:Nat→Prop) (P n:Nat) (ae:List (List B8)) (b:Bu) (p:Pf_) (w:World) (hm:Mut S w) (hp:PrW A S w P n ae b p) (N:Nat) (hN':N=p.ar) (hb:Mx.aK b n=0) (hg:p.goal≤p.ar) (hh:(p.ar:Int)≤2147483647) (hsi:Mx.cn b n (p.goal:Int)=true) (x y:List B8) (hx:ae[p.goal]?=some x) (hy:ae[p.ar]?=some y) (hxl:x.length=n) (hyl:y.length=n) (hmy:Mx.bT p.had=0) :
 Calls Tryz.prog 112 #[.pointer (some ⟨P,0,none⟩)] w fun e w'=>∃ qa qn qc,e=.returned (.tuple #[.agg #[.int .i64 (p.goal:Int),.int .i64 (N:Int),.slice qa qn qc],.nilIface])∧Hid (cL w' w.heap.size (.slice qa qn qc) (Mx.pks x p.had (Mx.bF b n (p.goal:Int)).aI))∧Hid (Gq w w'):=by
 obtain⟨g,oa,on,oc,sa,sn,sc,m,qa0,qn0,qc0,ha,hn,hc,X⟩:=hp;have hN:=aa hN';have HNB:=aa (show b.num=(N:Int) by rw[X.r.num,hN.o]);have HG:=aa (show p.goal≤N by rw[hN.o];exact hg);have hN2:(N:Int)≤2147483647:=by rw[hN.o];exact hh
 have hG2:(p.goal:Int)≤2147483647:=by omega
 obtain⟨EN,hEN⟩:∃ EN:Int,Hid (EN=(Mx.bF b n (p.goal:Int)).num):=⟨_,rfl⟩
 obtain⟨W0,hW0⟩:∃ W0:World,Hid (W0=w.alloc (.cells #[.int .i64 0,.int .i64 0,.slice none 0 0] 213)):=⟨_,rfl⟩
 have R0:=bxA hW0;have D0:=beA hW0;have HX0:=aa (X.later D0.o);have HM0:=aa (hm.later D0.o);have HBM:=aa hb;have HSI:=aa hsi;have HXX:=aa hx;have HYY:=aa hy;have HXL:=aa hxl;have HYL:=aa hyl;have HMY:=aa hmy;have hn32:n≤32:=by have h9:=(Mx.bM hb).1;omega
 have hn1:1≤n:=by have h9:=(Mx.bM hb).1;omega
 obtain⟨W1,hW1⟩:∃ W1:World,Hid (W1=(W0.alloc (.cells #[.int .i64 (p.goal:Int),.int .i64 (N:Int),.slice none 0 0] 213)).drew):=⟨_,rfl⟩
 have D1:=aa (show Gq W0 W1 by rw[hW1.o];exact(af _ _).drew);obtain⟨ub,hub⟩:∃ ub:Nat,Hid (ub=W0.heap.size):=⟨_,rfl⟩
 have K1:=aa (show Bx W1 ub #[.int .i64 (p.goal:Int),.int .i64 (N:Int),.slice none 0 0] 213 by rw[hW1.o,hub.o];exact Bx.dj W0 _ _);have HX:=aa (HX0.o.later D1.o);have HMW:=aa (HM0.o.later D1.o);have hPW0:P<W0.heap.size:=Bx.lt HX0.o.bx;have hPW:P<W1.heap.size:=Bx.lt HX.o.bx;have NE:=aa X.ne;have HXW:=aa X;obtain⟨x0,x1,x2,x3,x4,x5,x6,x7,x8,x9,x10,x11,x12,x13⟩:=HX0.o.bx.cells;rw[HNB.o] at x2;clear X hm hb hsi hx hy hxl hyl hmy x0 x1 x3 x4 x5 x6 x7 x8 x9 x10 x11 x13 hN';go_enter Tryz.func112,Tryz.ntmps112;change aB Tryz.f112 _ 0 _ w;refine aj rfl ?_;intro K hK;go_wp2_with fail;rw[←hW0.o];refine Met.intro (aj rfl ?_);try clear hK K
 intro K hK;go_region_held3 (fun w'=>w'.cell? ⟨P,2,none⟩=some (.int .i64 (N:Int))∧w'.cell? ⟨P,12,none⟩=some (.int .i64 (p.goal:Int)))
  (first
    | with_reducible exact ⟨x2, x12⟩
    |(simp only[an];with_reducible exact⟨x2,x12⟩)
    |(simp only[an,ao hPW0];with_reducible exact⟨x2,x12⟩))
  (first
    |(go_at_call 38;(with_reducible refine(gd P (N:Int) _ (by first|exact x2|(simp only[an];exact x2)|(simp only[an,ao hPW0];exact x2))).mono ?_);rintro e wz ⟨rfl,hz⟩;obtain rfl:=hz.symm;clear hz))
 all_goals
  rw[←hW1.o,←hub.o];clear x2 x12;obtain⟨x0,x1,x2,x3,x4,x5,x6,x7,x8,x9,x10,x11,x12,x13⟩:=HX.o.bx.cells;rw[HNB.o] at x2;clear x0 x6 x7 x8 x9 x10 x11 x13;go_wp2_with fail;refine Met.intro (aj rfl ?_);try clear hK K
  intro K hK;have UB:=aa (show Buo S W1.drew oa on oc sa sn sc b.op b.se from HX.o.r.bu.ext (Ex.below (Below.refl _ _).drew));have UA:=aa (show Buo (fun b=>S b∨b=W1.heap.size) (W1.alloc (.cells #[.int .i64 0,.slice none 0 0] 164)).drew oa on oc sa sn sc b.op b.se from(HX.o.r.bu.wd ((Wd.refl S W1).add (Gi _))).ext (Ex.below (af _ _).drew));have hl0:P<W1.heap.size:=(by assumption)
  have hf0:¬W1.heap.size=P:=by omega
  have DA:=aa (show Gq W1 (W1.alloc (.cells #[.int .i64 0,.slice none 0 0] 164)).drew from(af _ _).drew);have DB:=aa (show Gq W1 W1.drew from(Below.refl _ _).drew);have XA:=aa (show Bx (W1.alloc (.cells #[.int .i64 0,.slice none 0 0] 164)).drew W1.heap.size #[.int .i64 0,.slice none 0 0] 164 from Bx.dj W1 _ _);have hSx:¬S W1.heap.size:=fun hs=>by have:=HMW.o.lt _ hs;omega
  have MA:=aa (show Mut (fun b=>S b∨b=W1.heap.size) (W1.alloc (.cells #[.int .i64 0,.slice none 0 0] 164)).drew from(HMW.o.later DA.o).add XA.o (dB _ rfl));have MB:=aa (HMW.o.later DB.o);have WA:=aa (show Wd S (fun b=>S b∨b=W1.heap.size) W1 from(Wd.refl S W1).add (Gi _));go_region_held3 (fun w'=>w'.cell? ⟨P,1,none⟩=some (.int .i64 (n:Int))∧w'.cell? ⟨P,2,none⟩=some (.int .i64 (N:Int))∧w'.cell? ⟨P,3,none⟩=some (.slice oa on oc)∧w'.cell? ⟨P,4,none⟩=some (.slice sa sn sc)∧w'.cell? ⟨P,5,none⟩=some (.bool b.be)∧w'.cell? ⟨P,12,none⟩=some (.int .i64 (p.goal:Int)))
   (first
     | with_reducible exact ⟨x1, x2, x3, x4, x5, x12⟩
     |(simp only[an];with_reducible exact⟨x1,x2,x3,x4,x5,x12⟩)
     | with_reducible exact ⟨yx1, yx2, yx3, yx4, yx5, yx12⟩
     |(simp only[an,ao hl0];with_reducible exact⟨x1,x2,x3,x4,x5,x12⟩)
     |(simp only[ao hy0];with_reducible exact⟨yx1,yx2,yx3,yx4,yx5,yx12⟩)
     |(simp only[aw hf0];with_reducible exact⟨yx1,yx2,yx3,yx4,yx5,yx12⟩))
   (first
     |(go_at_call 134;(with_reducible refine(lT S b N HNB.o oa on oc sa sn sc n p.goal W1.drew MB.o UB.o HBM.o HG.o true HSI.o EN hEN.o).mono ?_);rintro e w2 ⟨pa,pn,pk,rfl,U2,E2⟩;have D2:=aa (show Gq W1 w2 from DB.o.trans (E2.o.mono DB.o.size));have yx1:=(D2.o.cell (p:=⟨P,1,none⟩) hl0).trans x1;have yx2:=(D2.o.cell (p:=⟨P,2,none⟩) hl0).trans x2;have yx3:=(D2.o.cell (p:=⟨P,3,none⟩) hl0).trans x3;have yx4:=(D2.o.cell (p:=⟨P,4,none⟩) hl0).trans x4;have yx5:=(D2.o.cell (p:=⟨P,5,none⟩) hl0).trans x5;have yx12:=(D2.o.cell (p:=⟨P,12,none⟩) hl0).trans x12;have hy0:P<w2.heap.size:=Gf hl0 D2.o.size)
     |(go_at_call 134;(with_reducible refine(lT (fun b=>S b∨b=W1.heap.size) b N HNB.o oa on oc sa sn sc n p.goal (W1.alloc (.cells #[.int .i64 0,.slice none 0 0] 164)).drew MA.o UA.o HBM.o HG.o true HSI.o EN hEN.o).mono ?_);rintro e w2 ⟨pa,pn,pk,rfl,U2,E2⟩;have D2:=aa (show Gq W1 w2 from DA.o.trans (E2.o.mono DA.o.size));have yx1:=(D2.o.cell (p:=⟨P,1,none⟩) hl0).trans x1;have yx2:=(D2.o.cell (p:=⟨P,2,none⟩) hl0).trans x2;have yx3:=(D2.o.cell (p:=⟨P,3,none⟩) hl0).trans x3;have yx4:=(D2.o.cell (p:=⟨P,4,none⟩) hl0).trans x4;have yx5:=(D2.o.cell (p:=⟨P,5,none⟩) hl0).trans x5;have yx12:=(D2.o.cell (p:=⟨P,12,none⟩) hl0).trans x12;have hy0:P<w2.heap.size:=Gf hl0 D2.o.size;have X2:=aa (XA.o.later E2.o XA.o.lt);have zc0:w2.cell? ⟨W1.heap.size,0,none⟩=some (.int .i64 0):=X2.o.cell 0;have zc1:w2.cell? ⟨W1.heap.size,1,none⟩=some (.slice none 0 0):=X2.o.cell 1;have zz:=X2.o.frozen))
  all_goals
   first
    |(obtain⟨W3,hW3⟩:∃ W3:World,Hid (W3=w2.alloc (.cells #[.int .i64 EN,.slice pa pn pk] 164)):=⟨_,rfl⟩
      obtain⟨gx,hgx⟩:∃ gx:Nat,Hid (gx=w2.heap.size):=⟨_,rfl⟩
      have X3:=aa (show Bx W3 gx #[.int .i64 EN,.slice pa pn pk] 164 by rw[hW3.o,hgx.o];exact Bx.new w2 _ _);have F3:=beA hW3;have D3:=aa (show Gq W1 W3 from D2.o.trans (F3.o.mono D2.o.size));have U3:=aa (show PLo S W3 pa pn (Mx.bF b n (p.goal:Int)).aI from U2.o.ext (Ex.below F3.o));have hgw:W1.heap.size≤gx:=by rw[hgx.o];exact D2.o.size
      rw[←hW3.o,←hgx.o])
    |(obtain⟨W3,hW3⟩:∃ W3:World,Hid (W3=((w2.setCell ⟨W1.heap.size,0,none⟩ (.int .i64 EN)).setCell ⟨W1.heap.size,1,none⟩ (.slice pa pn pk))):=⟨_,rfl⟩
      obtain⟨gx,hgx⟩:∃ gx:Nat,Hid (gx=W1.heap.size):=⟨_,rfl⟩
      have U3:=aa (show w2.grownBy W3 (some W1.heap.size) by rw[hW3.o];exact ak (ak (aq _ _) _ _) _ _);have X3:=aa (show Bx W3 gx #[.int .i64 EN,.slice pa pn pk] 164 by rw[hW3.o,hgx.o];exact(X2.o.set 0 _).set 1 _);have D3:=aa (show Gq W1 W3 from aM D2.o U3.o (Gi _));have Z3:=aa (show Ex (fun b=>b=W1.heap.size) w2 W3 from Ex.one U3.o);have U3:=aa (show PLo S W3 pa pn (Mx.bF b n (p.goal:Int)).aI from(U2.o.ext (Z3.o.mono (fun b _ hb=>.inr hb))).wd (fun b _ hs=>.inl hs));have hgw:W1.heap.size≤gx:=by rw[hgx.o];exact Gi _
      rw[←hW3.o,←hgx.o])
   clear x1 x2 x3 x4 x5 x12 yx1 yx2 yx3 yx4 yx5 yx12;try clear zc0 zc1 zz
   go_wp2_with fail;refine Met.intro (aj rfl ?_);try clear hK K
   intro K hK;go_wp2_with fail;refine Met.intro (aj rfl ?_);try clear hK K
   intro K hK;have X4:=aa (HX.o.later D3.o);have M4:=aa (HMW.o.later D3.o);have K4:=aa (K1.o.later D3.o K1.o.lt);have R4:=aa ((R0.o.later D1.o R0.o.lt).later D3.o (Gf R0.o.lt D1.o.size));have F3':=aa (show Gq w W3 from(D0.o.trans (D1.o.mono D0.o.size)).trans (D3.o.mono (Gn D0.o.size D1.o.size)));obtain⟨es,ck,hmp,hse,hsk⟩:=X4.o.r.mp;have HSE:=aa hse;have HMP:=aa hmp;have HSK:=aa hsk;clear hmp hse hsk;have DR4:=aa (show Gq W3 W3.drew from(Below.refl _ _).drew);obtain⟨ea,ec,hlk,hEB⟩:∃ ea ec,(Instr.lookup 102 (.map (some m)) (.int .i64 (p.goal:Int)) false).run Tryz.prog W3.drew=.ok (.slice ea n ec) W3.drew∧Hid (BL W3 ea n x):=by
    have hlo:b.num-(b.se.length:Int)≤(p.goal:Int):=(Mx.uf HBM.o (by omega) (by have h9:=HNB.o;have h8:=HG.o;omega)).1 HSI.o;obtain⟨e,he,hek⟩:=HSK.o p.goal hlo (by have h9:=hN.o;have h8:=HG.o;omega);obtain⟨i,hi⟩:=List.getElem?_of_mem he;obtain⟨k,l,a,c,h1,h2,h3,h4,h5,h6⟩:=HSE.o e he;have hkg:k=p.goal:=by
     rw[hek] at h1;injection h1 with _ h1
     omega
    subst hkg;rw[HXX.o] at h3;cases h3
    have h9:=Mp.lookup eM Tryz.underlying102 (HMP.o.later DR4.o) (fw (by omega) hG2) hi hek false;rw[h4] at h9;exact⟨a,c,h9,aa h5.1⟩
   obtain⟨x0,x1,x2,x3,x4,x5,x6,x7,x8,x9,x10,x11,x12,x13⟩:=X4.o.bx.cells;have e1:W3.cell? ⟨gx,1,none⟩=some (.slice pa pn pk):=X3.o.cell 1;clear x0 x1 x2 x3 x4 x5 x7 x8 x9 x10 x11 x13;go_region_held3 (fun w'=>w'.cell? ⟨P,6,none⟩=some (.map (some m))∧w'.cell? ⟨P,12,none⟩=some (.int .i64 (p.goal:Int))∧w'.cell? ⟨gx,1,none⟩=some (.slice pa pn pk))
    (first
      | with_reducible exact ⟨x6, x12, e1⟩
      |(simp only[an];with_reducible exact⟨x6,x12,e1⟩))
    (fail)
   all_goals
    obtain⟨W5,hW5⟩:∃ W5:World,Hid (W5=W3.drew):=⟨_,rfl⟩
    rw[←hW5.o];have D5:=aa (show Gq W3 W5 by rw[hW5.o];exact DR4.o);have X5:=aa (X4.o.later D5.o);have K5:=aa (K4.o.later D5.o K4.o.lt);have R5:=aa (R4.o.later D5.o R4.o.lt);have U5:=aa (U3.o.1.later D5.o);have F5:=aa (show Gq w W5 from F3'.o.trans (D5.o.mono F3'.o.size));clear x6 x12 e1 hlk;go_wp2_with fail;refine Met.intro (aj rfl ?_);try clear hK K
    intro K hK;have hkP:¬ub=P:=by have h9:=hub.o;omega
    have hubw:w.heap.size<ub:=by have h9:=hub.o;have h8:=R0.o.lt;omega
    have EB5:=aa (hEB.o.later D5.o);go_wp2_with fail;exact Met.intro (up6 X5 K5 R5 F5 hubw hkP U5 EB5 (by have h9:=Mx.Ab HBM.o HSI.o;have h8:=U5.o.1;omega) hn1 hn32 HMY (aa (Mx.sW (Mx.kO HBM.o HSI.o))))
end
section
open Go.RowKit Go.ChangeMaps
theorem qO (A S:Nat→Prop) (P n:Nat) (ae:List (List B8)) (b:Bu) (p:Pf_) (w:World) (hm:Mut S w) (hp:PrW A S w P n ae b p) (N:Nat) (hN':N=p.ar) (hb:Mx.aK b n=0) (hg:p.goal≤p.ar) (hh:(p.ar:Int)≤2147483647) (hsi:Mx.cn b n (p.goal:Int)=false) (x y:List B8) (hx:ae[p.goal]?=some x) (hy:ae[p.ar]?=some y) (hxl:x.length=n) (hyl:y.length=n) (hmy:Mx.bT p.had=0) :
 Calls Tryz.prog 112 #[.pointer (some ⟨P,0,none⟩)] w fun e w'=>∃ qa qn qc,e=.returned (.tuple #[.agg #[.int .i64 0,.int .i64 (N:Int),.slice qa qn qc],.nilIface])∧Hid (cL w' w.heap.size (.slice qa qn qc) (Mx.pks (List.replicate n zB) p.had (Mx.dF y)))∧Hid (Gq w w'):=by
 obtain⟨g,oa,on,oc,sa,sn,sc,m,qa0,qn0,qc0,ha,hn,hc,X⟩:=hp;have hN:=aa hN';have HNB:=aa (show b.num=(N:Int) by rw[X.r.num,hN.o]);have HG:=aa (show p.goal≤N by rw[hN.o];exact hg);have hN2:(N:Int)≤2147483647:=by rw[hN.o];exact hh
 have hG2:(p.goal:Int)≤2147483647:=by omega
 obtain⟨EN,hEN⟩:∃ EN:Int,Hid (EN=(Mx.bF b n (p.goal:Int)).num):=⟨_,rfl⟩
 obtain⟨W0,hW0⟩:∃ W0:World,Hid (W0=w.alloc (.cells #[.int .i64 0,.int .i64 0,.slice none 0 0] 213)):=⟨_,rfl⟩
 have R0:=bxA hW0;have D0:=beA hW0;have HX0:=aa (X.later D0.o);have HM0:=aa (hm.later D0.o);have HBM:=aa hb;have HSI:=aa hsi;have HXX:=aa hx;have HYY:=aa hy;have HXL:=aa hxl;have HYL:=aa hyl;have HMY:=aa hmy;have hn32:n≤32:=by have h9:=(Mx.bM hb).1;omega
 have hn1:1≤n:=by have h9:=(Mx.bM hb).1;omega
 obtain⟨W1,hW1⟩:∃ W1:World,Hid (W1=(W0.alloc (.cells #[.int .i64 (p.goal:Int),.int .i64 (N:Int),.slice none 0 0] 213)).drew):=⟨_,rfl⟩
 have D1:=aa (show Gq W0 W1 by rw[hW1.o];exact(af _ _).drew);obtain⟨ub,hub⟩:∃ ub:Nat,Hid (ub=W0.heap.size):=⟨_,rfl⟩
 have K1:=aa (show Bx W1 ub #[.int .i64 (p.goal:Int),.int .i64 (N:Int),.slice none 0 0] 213 by rw[hW1.o,hub.o];exact Bx.dj W0 _ _);have HX:=aa (HX0.o.later D1.o);have HMW:=aa (HM0.o.later D1.o);have hPW0:P<W0.heap.size:=Bx.lt HX0.o.bx;have hPW:P<W1.heap.size:=Bx.lt HX.o.bx;have NE:=aa X.ne;have HXW:=aa X;obtain⟨x0,x1,x2,x3,x4,x5,x6,x7,x8,x9,x10,x11,x12,x13⟩:=HX0.o.bx.cells;rw[HNB.o] at x2;clear X hm hb hsi hx hy hxl hyl hmy x0 x1 x3 x4 x5 x6 x7 x8 x9 x10 x11 x13 hN';go_enter Tryz.func112,Tryz.ntmps112;change aB Tryz.f112 _ 0 _ w;refine aj rfl ?_;intro K hK;go_wp2_with fail;rw[←hW0.o];refine Met.intro (aj rfl ?_);try clear hK K
 intro K hK;go_region_held3 (fun w'=>w'.cell? ⟨P,2,none⟩=some (.int .i64 (N:Int))∧w'.cell? ⟨P,12,none⟩=some (.int .i64 (p.goal:Int)))
  (first
    | with_reducible exact ⟨x2, x12⟩
    |(simp only[an];with_reducible exact⟨x2,x12⟩)
    |(simp only[an,ao hPW0];with_reducible exact⟨x2,x12⟩))
  (first
    |(go_at_call 38;(with_reducible refine(gd P (N:Int) _ (by first|exact x2|(simp only[an];exact x2)|(simp only[an,ao hPW0];exact x2))).mono ?_);rintro e wz ⟨rfl,hz⟩;obtain rfl:=hz.symm;clear hz))
 all_goals
  rw[←hW1.o,←hub.o];clear x2 x12;obtain⟨x0,x1,x2,x3,x4,x5,x6,x7,x8,x9,x10,x11,x12,x13⟩:=HX.o.bx.cells;rw[HNB.o] at x2;clear x0 x6 x7 x8 x9 x10 x11 x13;go_wp2_with fail;refine Met.intro (aj rfl ?_);try clear hK K
  intro K hK;have UB:=aa (show Buo S W1.drew oa on oc sa sn sc b.op b.se from HX.o.r.bu.ext (Ex.below (Below.refl _ _).drew));have UA:=aa (show Buo (fun b=>S b∨b=W1.heap.size) (W1.alloc (.cells #[.int .i64 0,.slice none 0 0] 164)).drew oa on oc sa sn sc b.op b.se from(HX.o.r.bu.wd ((Wd.refl S W1).add (Gi _))).ext (Ex.below (af _ _).drew));have hl0:P<W1.heap.size:=(by assumption)
  have hf0:¬W1.heap.size=P:=by omega
  have DA:=aa (show Gq W1 (W1.alloc (.cells #[.int .i64 0,.slice none 0 0] 164)).drew from(af _ _).drew);have DB:=aa (show Gq W1 W1.drew from(Below.refl _ _).drew);have XA:=aa (show Bx (W1.alloc (.cells #[.int .i64 0,.slice none 0 0] 164)).drew W1.heap.size #[.int .i64 0,.slice none 0 0] 164 from Bx.dj W1 _ _);have hSx:¬S W1.heap.size:=fun hs=>by have:=HMW.o.lt _ hs;omega
  have MA:=aa (show Mut (fun b=>S b∨b=W1.heap.size) (W1.alloc (.cells #[.int .i64 0,.slice none 0 0] 164)).drew from(HMW.o.later DA.o).add XA.o (dB _ rfl));have MB:=aa (HMW.o.later DB.o);have WA:=aa (show Wd S (fun b=>S b∨b=W1.heap.size) W1 from(Wd.refl S W1).add (Gi _));go_region_held3 (fun w'=>w'.cell? ⟨P,1,none⟩=some (.int .i64 (n:Int))∧w'.cell? ⟨P,2,none⟩=some (.int .i64 (N:Int))∧w'.cell? ⟨P,3,none⟩=some (.slice oa on oc)∧w'.cell? ⟨P,4,none⟩=some (.slice sa sn sc)∧w'.cell? ⟨P,5,none⟩=some (.bool b.be)∧w'.cell? ⟨P,12,none⟩=some (.int .i64 (p.goal:Int)))
   (first
     | with_reducible exact ⟨x1, x2, x3, x4, x5, x12⟩
     |(simp only[an];with_reducible exact⟨x1,x2,x3,x4,x5,x12⟩)
     | with_reducible exact ⟨yx1, yx2, yx3, yx4, yx5, yx12⟩
     |(simp only[an,ao hl0];with_reducible exact⟨x1,x2,x3,x4,x5,x12⟩)
     |(simp only[ao hy0];with_reducible exact⟨yx1,yx2,yx3,yx4,yx5,yx12⟩)
     |(simp only[aw hf0];with_reducible exact⟨yx1,yx2,yx3,yx4,yx5,yx12⟩))
   (first
     |(go_at_call 134;(with_reducible refine(lT S b N HNB.o oa on oc sa sn sc n p.goal W1.drew MB.o UB.o HBM.o HG.o false HSI.o EN hEN.o).mono ?_);rintro e w2 ⟨pa,pn,pk,rfl,U2,E2⟩;have D2:=aa (show Gq W1 w2 from DB.o.trans (E2.o.mono DB.o.size));have yx1:=(D2.o.cell (p:=⟨P,1,none⟩) hl0).trans x1;have yx2:=(D2.o.cell (p:=⟨P,2,none⟩) hl0).trans x2;have yx3:=(D2.o.cell (p:=⟨P,3,none⟩) hl0).trans x3;have yx4:=(D2.o.cell (p:=⟨P,4,none⟩) hl0).trans x4;have yx5:=(D2.o.cell (p:=⟨P,5,none⟩) hl0).trans x5;have yx12:=(D2.o.cell (p:=⟨P,12,none⟩) hl0).trans x12;have hy0:P<w2.heap.size:=Gf hl0 D2.o.size)
     |(go_at_call 134;(with_reducible refine(lT (fun b=>S b∨b=W1.heap.size) b N HNB.o oa on oc sa sn sc n p.goal (W1.alloc (.cells #[.int .i64 0,.slice none 0 0] 164)).drew MA.o UA.o HBM.o HG.o false HSI.o EN hEN.o).mono ?_);rintro e w2 ⟨pa,pn,pk,rfl,U2,E2⟩;have D2:=aa (show Gq W1 w2 from DA.o.trans (E2.o.mono DA.o.size));have yx1:=(D2.o.cell (p:=⟨P,1,none⟩) hl0).trans x1;have yx2:=(D2.o.cell (p:=⟨P,2,none⟩) hl0).trans x2;have yx3:=(D2.o.cell (p:=⟨P,3,none⟩) hl0).trans x3;have yx4:=(D2.o.cell (p:=⟨P,4,none⟩) hl0).trans x4;have yx5:=(D2.o.cell (p:=⟨P,5,none⟩) hl0).trans x5;have yx12:=(D2.o.cell (p:=⟨P,12,none⟩) hl0).trans x12;have hy0:P<w2.heap.size:=Gf hl0 D2.o.size;have X2:=aa (XA.o.later E2.o XA.o.lt);have zc0:w2.cell? ⟨W1.heap.size,0,none⟩=some (.int .i64 0):=X2.o.cell 0;have zc1:w2.cell? ⟨W1.heap.size,1,none⟩=some (.slice none 0 0):=X2.o.cell 1;have zz:=X2.o.frozen))
  all_goals
   first
    |(obtain⟨W3,hW3⟩:∃ W3:World,Hid (W3=w2.alloc (.cells #[.int .i64 EN,.slice pa pn pk] 164)):=⟨_,rfl⟩
      obtain⟨gx,hgx⟩:∃ gx:Nat,Hid (gx=w2.heap.size):=⟨_,rfl⟩
      have X3:=aa (show Bx W3 gx #[.int .i64 EN,.slice pa pn pk] 164 by rw[hW3.o,hgx.o];exact Bx.new w2 _ _);have F3:=beA hW3;have D3:=aa (show Gq W1 W3 from D2.o.trans (F3.o.mono D2.o.size));have U3:=aa (show PLo S W3 pa pn (Mx.bF b n (p.goal:Int)).aI from U2.o.ext (Ex.below F3.o));have hgw:W1.heap.size≤gx:=by rw[hgx.o];exact D2.o.size
      rw[←hW3.o,←hgx.o])
    |(obtain⟨W3,hW3⟩:∃ W3:World,Hid (W3=((w2.setCell ⟨W1.heap.size,0,none⟩ (.int .i64 EN)).setCell ⟨W1.heap.size,1,none⟩ (.slice pa pn pk))):=⟨_,rfl⟩
      obtain⟨gx,hgx⟩:∃ gx:Nat,Hid (gx=W1.heap.size):=⟨_,rfl⟩
      have U3:=aa (show w2.grownBy W3 (some W1.heap.size) by rw[hW3.o];exact ak (ak (aq _ _) _ _) _ _);have X3:=aa (show Bx W3 gx #[.int .i64 EN,.slice pa pn pk] 164 by rw[hW3.o,hgx.o];exact(X2.o.set 0 _).set 1 _);have D3:=aa (show Gq W1 W3 from aM D2.o U3.o (Gi _));have Z3:=aa (show Ex (fun b=>b=W1.heap.size) w2 W3 from Ex.one U3.o);have U3:=aa (show PLo S W3 pa pn (Mx.bF b n (p.goal:Int)).aI from(U2.o.ext (Z3.o.mono (fun b _ hb=>.inr hb))).wd (fun b _ hs=>.inl hs));have hgw:W1.heap.size≤gx:=by rw[hgx.o];exact Gi _
      rw[←hW3.o,←hgx.o])
   clear x1 x2 x3 x4 x5 x12 yx1 yx2 yx3 yx4 yx5 yx12;try clear zc0 zc1 zz
   go_wp2_with fail;refine Met.intro (aj rfl ?_);try clear hK K
   intro K hK;go_wp2_with fail;refine Met.intro (aj rfl ?_);try clear hK K
   intro K hK;have X4:=aa (HX.o.later D3.o);have M4:=aa (HMW.o.later D3.o);have K4:=aa (K1.o.later D3.o K1.o.lt);have R4:=aa ((R0.o.later D1.o R0.o.lt).later D3.o (Gf R0.o.lt D1.o.size));have F3':=aa (show Gq w W3 from(D0.o.trans (D1.o.mono D0.o.size)).trans (D3.o.mono (Gn D0.o.size D1.o.size)));obtain⟨es,ck,hmp,hse,hsk⟩:=X4.o.r.mp;have HSE:=aa hse;have HMP:=aa hmp;have HSK:=aa hsk;clear hmp hse hsk;have DR4:=aa (show Gq W3 W3.drew from(Below.refl _ _).drew);obtain⟨ev,hlk⟩:∃ ev,(Instr.lookup 102 (.map (some m)) (.int .i64 (p.goal:Int)) false).run Tryz.prog W3.drew=.ok ev W3.drew:=by
    by_cases hex:∃ e∈es,e.key=.int .i64 (p.goal:Int)
    ·obtain⟨e,he,hek⟩:=hex
     obtain⟨i,hi⟩:=List.getElem?_of_mem he;exact⟨_,Mp.lookup eM Tryz.underlying102 (HMP.o.later DR4.o) (fw (by omega) hG2) hi hek false⟩
    ·exact⟨_,Mp.yE eM Tryz.underlying102 (HMP.o.later DR4.o) (fw (by omega) hG2) (fun e he h9=>hex ⟨e,he,h9⟩) (z:=.slice none 0 0) (oh _) false⟩
   obtain⟨x0,x1,x2,x3,x4,x5,x6,x7,x8,x9,x10,x11,x12,x13⟩:=X4.o.bx.cells;have e1:W3.cell? ⟨gx,1,none⟩=some (.slice pa pn pk):=X3.o.cell 1;clear x0 x1 x2 x3 x4 x5 x7 x8 x9 x10 x11 x13;go_region_held3 (fun w'=>w'.cell? ⟨P,6,none⟩=some (.map (some m))∧w'.cell? ⟨P,12,none⟩=some (.int .i64 (p.goal:Int))∧w'.cell? ⟨gx,1,none⟩=some (.slice pa pn pk))
    (first
      | with_reducible exact ⟨x6, x12, e1⟩
      |(simp only[an];with_reducible exact⟨x6,x12,e1⟩))
    (fail)
   all_goals
    obtain⟨W5,hW5⟩:∃ W5:World,Hid (W5=W3.drew):=⟨_,rfl⟩
    rw[←hW5.o];have D5:=aa (show Gq W3 W5 by rw[hW5.o];exact DR4.o);have X5:=aa (X4.o.later D5.o);have K5:=aa (K4.o.later D5.o K4.o.lt);have R5:=aa (R4.o.later D5.o R4.o.lt);have U5:=aa (U3.o.1.later D5.o);have F5:=aa (show Gq w W5 from F3'.o.trans (D5.o.mono F3'.o.size));clear x6 x12 e1 hlk;go_wp2_with fail;refine Met.intro (aj rfl ?_);try clear hK K
    intro K hK;have hkP:¬ub=P:=by have h9:=hub.o;omega
    have hubw:w.heap.size<ub:=by have h9:=hub.o;have h8:=R0.o.lt;omega
    obtain⟨C,hC,HC⟩:=fL n (by omega);obtain⟨ea,ec,hEB,hLK⟩:∃ ea ec,Hid (BL W5 ea n y)∧Hid (∀ V:World,Gq W5 V→(Instr.lookup 102 (.map (some m)) (.int .i64 (N:Int)) false).run Tryz.prog V=.ok (.slice ea n ec) V):=by
     obtain⟨e,he,hek⟩:=HSK.o p.ar (by have h9:=HNB.o;have h8:=hN.o;omega) (Gi _);obtain⟨i,hi⟩:=List.getElem?_of_mem he;obtain⟨k,l,a,c,h1,h2,h3,h4,h5,h6⟩:=HSE.o e he;have hkg:k=p.ar:=by
      rw[hek] at h1;injection h1 with _ h1
      omega
     subst hkg;rw[HYY.o] at h3;cases h3
     refine⟨a,c,aa (h5.1.later D5.o),aa (fun V hV=>?_)⟩;have h9:=Mp.lookup eM Tryz.underlying102 ((HMP.o.later D5.o).later hV) (fw (k:=(N:Int)) (by omega) hN2) hi (by rw[hek,hN.o]) false;rw[h4] at h9;exact h9
    obtain⟨x0,x1,x2,x3,x4,x5,x6,x7,x8,x9,x10,x11,x12,x13⟩:=X5.o.bx.cells;clear x0 x2 x3 x4 x5 x7 x8 x9 x10 x11 x12 x13;obtain⟨k0,k1,k2⟩:=K5.o.three;have kz:=K5.o.frozen;have hPW5:P<W5.heap.size:=Bx.lt X5.o.bx;have hkW5:ub<W5.heap.size:=K5.o.lt;have DB7:=aa (show Gq W5 W5.drew from(Below.refl _ _).drew);have DA7:=aa (show Gq W5 (W5.alloc (.cells C 33)).drew from(af _ _).drew);have hl1:=hLK.o W5.drew DB7.o;have hl2:=hLK.o (W5.alloc (.cells C 33)).drew DA7.o;have BLB:=aa (hEB.o.later DB7.o);have BLA:=aa (hEB.o.later DA7.o);have MU:=aa (show Mut (fun b=>S b∨b=ub) W5 from(M4.o.later D5.o).add K5.o (dB _ rfl));have CA:=aa (((au.blo (HC.o W5 W5.heap.size (Gi _)) MU.o (Gi _)).1).ext (Ex.below (show Below (W5.alloc (.cells C 33)).heap.size (W5.alloc (.cells C 33)) (W5.alloc (.cells C 33)).drew from(Below.refl _ _).drew)));obtain⟨f6,hf6⟩:∃ f6:Nat,Hid (f6=W5.heap.size):=⟨_,rfl⟩
    go_upto_region 7 with fail
    go_region_held3 (fun w'=>w'.cell? ⟨P,6,none⟩=some (.map (some m))∧w'.cell? ⟨P,1,none⟩=some (.int .i64 (n:Int))∧w'.cell? ⟨ub,1,none⟩=some (.int .i64 (N:Int)))
     (first
       | with_reducible exact ⟨x6, x1, k1⟩
       |(simp only[an];with_reducible exact⟨x6,x1,k1⟩)
       | with_reducible exact ⟨y6, y1, yk1⟩
       |(simp only[an,ao hPW5,ao hkW5];with_reducible exact⟨x6,x1,k1⟩)
       |(simp only[ao hPy,ao hky];with_reducible exact⟨y6,y1,yk1⟩)
       |(simp only[aw hkP,l8 (show(0:Nat)≠1 by decide)];with_reducible exact⟨y6,y1,yk1⟩)
       |(simp only[ao hPz,ao hkz,aw hkP,l8 (show(0:Nat)≠1 by decide)];with_reducible exact⟨y6,y1,yk1⟩))
     (first
       |(go_at_call 135;(with_reducible refine(jM ea n ec y W5.drew BLB.o (by omega)).mono ?_);rintro e w6 ⟨a6,c6,rfl,P6,E6⟩;have P7:=aa (bg.plo P6.o MU.o DB7.o.size).1;have D6:=aa (show Gq W5 w6 from DB7.o.trans (E6.o.mono DB7.o.size));have y6:=(D6.o.cell (p:=⟨P,6,none⟩) hPW5).trans x6;have y1:=(D6.o.cell (p:=⟨P,1,none⟩) hPW5).trans x1;have K6:=aa (K5.o.later D6.o K5.o.lt);have yk1:w6.cell? ⟨ub,1,none⟩=some (.int .i64 (N:Int)):=K6.o.cell 1;have yk0:w6.cell? ⟨ub,0,none⟩=some (.int .i64 (p.goal:Int)):=K6.o.cell 0;have ykz:=K6.o.frozen;have hPy:=Gf hPW5 D6.o.size;have hky:=K6.o.lt;have hPz:P<(w6.setCell ⟨ub,0,none⟩ (.int .i64 0)).heap.size:=(by simpa using hPy);have hkz:ub<(w6.setCell ⟨ub,0,none⟩ (.int .i64 0)).heap.size:=(by simpa using hky))
       |(go_at_call 135;(with_reducible refine(jM ea n ec y (W5.alloc (.cells C 33)).drew BLA.o (by omega)).mono ?_);rintro e w6 ⟨a6,c6,rfl,P6,E6⟩;have P7:=aa (bg.plo P6.o MU.o DA7.o.size).1;have Q7:=aa (CA.o.ext (Ex.below E6.o));have D6:=aa (show Gq W5 w6 from DA7.o.trans (E6.o.mono DA7.o.size));have y6:=(D6.o.cell (p:=⟨P,6,none⟩) hPW5).trans x6;have y1:=(D6.o.cell (p:=⟨P,1,none⟩) hPW5).trans x1;have K6:=aa (K5.o.later D6.o K5.o.lt);have yk1:w6.cell? ⟨ub,1,none⟩=some (.int .i64 (N:Int)):=K6.o.cell 1;have yk0:w6.cell? ⟨ub,0,none⟩=some (.int .i64 (p.goal:Int)):=K6.o.cell 0;have ykz:=K6.o.frozen;have hPy:=Gf hPW5 D6.o.size;have hky:=K6.o.lt;have hPz:P<(w6.setCell ⟨ub,0,none⟩ (.int .i64 0)).heap.size:=(by simpa using hPy);have hkz:ub<(w6.setCell ⟨ub,0,none⟩ (.int .i64 0)).heap.size:=(by simpa using hky)))
    all_goals
     have RZ:=aa (show Mx.fP n (Mx.dF y)=0 by rw[←HYL.o];exact Mx.sW (Mx.lf y));have R6:=aa (R5.o.later D6.o R5.o.lt);have F6:=aa (show Gq w w6 from F5.o.trans (D6.o.mono F5.o.size));go_wp2_with fail;first
      |(obtain⟨V,hV⟩:∃ V:World,Hid (V=(w6.setCell ⟨ub,0,none⟩ (.int .i64 0)).alloc (.cells C 33)):=⟨_,rfl⟩
        rw[←hV.o];have G7:=aa (show w6.grownBy V (some ub) by rw[hV.o];exact nH (ak (aq _ _) _ _) _);have K7:=aa (show Bx V ub #[.int .i64 0,.int .i64 (N:Int),.slice none 0 0] 213 by rw[hV.o];exact(K6.o.set 0 _).later (af _ _) (by simpa using K6.o.lt));have Q7:=aa (show BLo (fun b=>S b∨b=ub) V (some ⟨w6.heap.size,0,none⟩) n (List.replicate n zB) by
         rw[hV.o];have h9:=HC.o (w6.setCell ⟨ub,0,none⟩ (.int .i64 0)) W5.heap.size (by simpa using D6.o.size);simp only[World.size_setCell] at h9;exact(au.blo h9 MU.o (Gi _)).1)
        have F7:=aa (show Gq w V from aM F6.o G7.o (by omega));exact Met.intro (up6 (aa (HXW.o.later F7.o)) K7 (aa (R6.o.grow G7.o (fun e=>by have h9:=Gg e;omega))) F7 hubw hkP (aa (P7.o.ext ((Ex.one G7.o).mono (fun b _ hb=>.inr hb))).1) (aa Q7.o.1) (by omega) hn1 hn32 HMY RZ))
      |(obtain⟨V,hV⟩:∃ V:World,Hid (V=w6.setCell ⟨ub,0,none⟩ (.int .i64 0)):=⟨_,rfl⟩
        rw[←hV.o];have G7:=aa (show w6.grownBy V (some ub) by rw[hV.o];exact ak (aq _ _) _ _);have K7:=aa (show Bx V ub #[.int .i64 0,.int .i64 (N:Int),.slice none 0 0] 213 by rw[hV.o];exact K6.o.set 0 _);have F7:=aa (show Gq w V from aM F6.o G7.o (by omega));exact Met.intro (up6 (aa (HXW.o.later F7.o)) K7 (aa (R6.o.grow G7.o (fun e=>by have h9:=Gg e;omega))) F7 hubw hkP (aa (P7.o.ext ((Ex.one G7.o).mono (fun b _ hb=>.inr hb))).1) (aa (Q7.o.ext ((Ex.one G7.o).mono (fun b _ hb=>.inr hb))).1) (by omega) hn1 hn32 HMY RZ))
      | trace_state
end
section
open Go.RowKit Go.ChangeMaps
theorem Mx.zb {b:Bu} {n:Nat} (hb:Mx.aK b n=0):b.op.length≤n∧∀ q∈b.op,0≤q.at_∧q.at_<(n:Int):=by
 have h1:Mx.bB n b.op=true:=(Mx.bW (Mx.bM hb).2.2).2.1;have h2:=Mx.dO h1;have h3:=Mx.gH h2 (by omega);exact⟨by omega,fun q hq=>Mx.dr h2 q hq⟩
theorem Snp.push {S:Nat→Prop} {w w':World} {m n:Nat} {ae:List (List B8)} {lo lo':Int} {hv:Nat} {es:List MapEntry} {ck:Nat} (h1:Mp 3 w m es ck) (h2:SnE S w n ae hv es) (h3:SnK es lo hv) (hE:Ex S w w') (hl:ae.length=hv+1) (now:List B8) {a:Option Addr} {c:Nat} (hb:BLo S w' a n now) (hc:n≤c) (hh:((hv+1:Nat):Int)≤2147483647)
 (hm:w'.heap[m]?=some (.map (eT es (.int .i64 ((hv:Int)+1)) (.slice a n c) ck).toArray (ck+1))) (hlo:lo'=(hv:Int)+1∨lo≤lo'):Snp S w' m n (ae++[now]) lo' (hv+1):=by
 have hno:∀ e∈es,e.key≠.int .i64 ((hv:Int)+1):=fun e he hk=>by
  obtain⟨k,l,_,_,h5,h6,_⟩:=h2 e he;rw[h5] at hk;injection hk with _ hk
  omega
 refine⟨_,_,h1.push (fw (by omega) (by omega)) hno _ hm,fun e he=>?_,fun k hk1 hk2=>?_⟩
 ·rcases List.mem_append.1 he with he|he
  ·obtain⟨k,l,a',c',h5,h6,h7,h8,h9,h10⟩:=h2 e he
   exact⟨k,l,a',c',h5,by omega,by rw[Gm (Gh.1 h7).1];exact h7,h8,h9.ext hE,h10⟩
  ·rw[List.mem_singleton.1 he]
   exact⟨hv+1,now,a,c,by simp,Gi _,by rw[←hl,Gl (Gi _),Nat.sub_self];rfl,rfl,hb,hc⟩
 ·by_cases hk:k=hv+1
  ·subst hk
   exact⟨⟨.int .i64 ((hv:Int)+1),.slice a n c,ck⟩,List.mem_append_right _ (List.mem_singleton.2 rfl),by simp⟩
  ·obtain⟨e,he,hek⟩:=h3 k (by omega) (by omega)
   exact⟨e,List.mem_append_left _ he,hek⟩
theorem xL (S:Nat→Prop) (b:Bu) (N:Nat) (hN:b.num=(N:Int)) (oa:Option Addr) (on oc:Nat) (sa:Option Addr) (sn sc:Nat) (n:Nat) (w:World) (hm:Mut S w) (hb:Buo S w oa on oc sa sn sc b.op b.se) (hM:Mx.aK b n=0) (h0:(N:Int)≠2147483647) :
 Calls Tryz.prog 43 #[.agg #[.int .i64 (N:Int),.slice oa on oc,.slice sa sn sc,.bool b.be],.int .i64 (n:Int)] w fun e w' =>
  ∃ oa' on' oc' sa' sn' sc',e=.returned (.tuple #[.agg #[.int .i64 ((N:Int)+1),.slice oa' on' oc',.slice sa' sn' sc',.bool (Mx.dA b)],.nilIface])∧Hid (Buo S w' oa' on' oc' sa' sn' sc' (Mx.bS b).op (Mx.bS b).se)∧Hid (Gq w w'):=by
 have h:=Ar S b oa on oc sa sn sc n w hm hb hM (by rw[hN];exact h0);rw[hN] at h;exact h
theorem tU (A S:Nat→Prop) (P n:Nat) (ae:List (List B8)) (b:Bu) (p:Pf_) (w:World) (hm:Mut S w) (hp:PrW A S w P n ae b p) (hb:Mx.aK b n=0) (bl:List B8) (hbl:ae[p.ar]?=some bl) (hsl:ae.length=p.ar+1) (hh:((p.ar+1:Nat):Int)≤2147483647) (hs:(p.s:Int)≤2147483647) :
 Calls Tryz.prog 27 #[.pointer (some ⟨P,0,none⟩)] w fun e w'=>e=.returned .nilIface∧Hid (PrD A S w w' P n (ae++[Mx.lay bl b.op]) (Mx.bS b) {p with ar:=p.ar+1}):=by
 obtain⟨g,oa,on,oc,sa,sn,sc,m,qa,qn,qc,ha,hn,hc,X⟩:=hp;obtain⟨N,hN⟩:∃ N:Nat,Hid (N=p.ar):=⟨_,rfl⟩
 have HNB:=aa (show b.num=(N:Int) by rw[X.r.num,hN.o]);have HN0:=aa (show(N:Int)≠2147483647 by rw[hN.o];omega);have hN2:(N:Int)+1≤2147483647:=by rw[hN.o];omega
 have HON:=aa (show on≤n from by rw[←X.r.bu.op.1.1];exact(Mx.zb hb).1);have HIN:=aa (Mx.zb hb).2;have HX:=aa X;have HMW:=aa hm;have NE:=aa X.ne;have HBM:=aa hb;have HBL:=aa hbl;have HSL:=aa hsl;have HS:=aa hs;have hPW:P<w.heap.size:=Bx.lt X.bx;have hle:b.se.length≤4:=(Mx.bM hb).2.1;have HLE:=aa hle;obtain⟨x0,x1,x2,x3,x4,x5,x6,x7,x8,x9,x10,x11,x12,x13⟩:=X.bx.cells;rw[HNB.o] at x2;clear X hm hb hbl hsl hh hs hle x0 x6 x7 x8 x9 x10 x11 x12 x13;go_enter Tryz.func27,Tryz.ntmps27;go_upto_region 1 with fail
 have UB:=aa (show Buo S w.drew oa on oc sa sn sc b.op b.se from HX.o.r.bu.ext (Ex.below (Below.refl _ _).drew));have UA:=aa (show Buo (fun b=>S b∨b=w.heap.size) (w.alloc (.cells #[.int .i64 0,.slice none 0 0,.slice none 0 0,.bool false] 101)).drew oa on oc sa sn sc b.op b.se from(HX.o.r.bu.wd ((Wd.refl S w).add (Gi _))).ext (Ex.below (af _ _).drew));have hl0:P<w.heap.size:=(by assumption)
 have hf0:¬w.heap.size=P:=by omega
 have DA:=aa (show Gq w (w.alloc (.cells #[.int .i64 0,.slice none 0 0,.slice none 0 0,.bool false] 101)).drew from(af _ _).drew);have DB:=aa (show Gq w w.drew from(Below.refl _ _).drew);have XA:=aa (show Bx (w.alloc (.cells #[.int .i64 0,.slice none 0 0,.slice none 0 0,.bool false] 101)).drew w.heap.size #[.int .i64 0,.slice none 0 0,.slice none 0 0,.bool false] 101 from Bx.dj w _ _);have hSx:¬S w.heap.size:=fun hs=>by have:=HMW.o.lt _ hs;omega
 have MA:=aa (show Mut (fun b=>S b∨b=w.heap.size) (w.alloc (.cells #[.int .i64 0,.slice none 0 0,.slice none 0 0,.bool false] 101)).drew from(HMW.o.later DA.o).add XA.o (dB _ rfl));have MB:=aa (HMW.o.later DB.o);have WA:=aa (show Wd S (fun b=>S b∨b=w.heap.size) w from(Wd.refl S w).add (Gi _));go_region_held3 (fun w'=>w'.cell? ⟨P,1,none⟩=some (.int .i64 (n:Int))∧w'.cell? ⟨P,2,none⟩=some (.int .i64 (N:Int))∧w'.cell? ⟨P,3,none⟩=some (.slice oa on oc)∧w'.cell? ⟨P,4,none⟩=some (.slice sa sn sc)∧w'.cell? ⟨P,5,none⟩=some (.bool b.be))
  (first
    | with_reducible exact ⟨x1, x2, x3, x4, x5⟩
    |(simp only[an];with_reducible exact⟨x1,x2,x3,x4,x5⟩)
    | with_reducible exact ⟨yx1, yx2, yx3, yx4, yx5⟩
    |(simp only[an,ao hl0];with_reducible exact⟨x1,x2,x3,x4,x5⟩)
    |(simp only[ao hy0];with_reducible exact⟨yx1,yx2,yx3,yx4,yx5⟩)
    |(simp only[aw hf0];with_reducible exact⟨yx1,yx2,yx3,yx4,yx5⟩))
  (first
    |(go_at_call 43;(with_reducible refine(xL S b N HNB.o oa on oc sa sn sc n w.drew MB.o UB.o HBM.o HN0.o).mono ?_);rintro e w2 ⟨ka,kn,kc,la,ln,lc,rfl,U2,E2⟩;have D2:=aa (show Gq w w2 from DB.o.trans (E2.o.mono DB.o.size));have yx1:=(D2.o.cell (p:=⟨P,1,none⟩) hl0).trans x1;have yx2:=(D2.o.cell (p:=⟨P,2,none⟩) hl0).trans x2;have yx3:=(D2.o.cell (p:=⟨P,3,none⟩) hl0).trans x3;have yx4:=(D2.o.cell (p:=⟨P,4,none⟩) hl0).trans x4;have yx5:=(D2.o.cell (p:=⟨P,5,none⟩) hl0).trans x5;have hy0:P<w2.heap.size:=Gf hl0 D2.o.size)
    |(go_at_call 43;(with_reducible refine(xL (fun b=>S b∨b=w.heap.size) b N HNB.o oa on oc sa sn sc n (w.alloc (.cells #[.int .i64 0,.slice none 0 0,.slice none 0 0,.bool false] 101)).drew MA.o UA.o HBM.o HN0.o).mono ?_);rintro e w2 ⟨ka,kn,kc,la,ln,lc,rfl,U2,E2⟩;have D2:=aa (show Gq w w2 from DA.o.trans (E2.o.mono DA.o.size));have yx1:=(D2.o.cell (p:=⟨P,1,none⟩) hl0).trans x1;have yx2:=(D2.o.cell (p:=⟨P,2,none⟩) hl0).trans x2;have yx3:=(D2.o.cell (p:=⟨P,3,none⟩) hl0).trans x3;have yx4:=(D2.o.cell (p:=⟨P,4,none⟩) hl0).trans x4;have yx5:=(D2.o.cell (p:=⟨P,5,none⟩) hl0).trans x5;have hy0:P<w2.heap.size:=Gf hl0 D2.o.size;have X2:=aa (XA.o.later E2.o XA.o.lt);have zc0:w2.cell? ⟨w.heap.size,0,none⟩=some (.int .i64 0):=X2.o.cell 0;have zc1:w2.cell? ⟨w.heap.size,1,none⟩=some (.slice none 0 0):=X2.o.cell 1;have zc2:w2.cell? ⟨w.heap.size,2,none⟩=some (.slice none 0 0):=X2.o.cell 2;have zc3:w2.cell? ⟨w.heap.size,3,none⟩=some (.bool false):=X2.o.cell 3;have zz:=X2.o.frozen))
 all_goals
  first
   |(obtain⟨W3,hW3⟩:∃ W3:World,Hid (W3=w2.alloc (.cells #[.int .i64 ((N:Int)+1),.slice ka kn kc,.slice la ln lc,.bool (Mx.dA b)] 101)):=⟨_,rfl⟩
     obtain⟨gx,hgx⟩:∃ gx:Nat,Hid (gx=w2.heap.size):=⟨_,rfl⟩
     have X3:=aa (show Bx W3 gx #[.int .i64 ((N:Int)+1),.slice ka kn kc,.slice la ln lc,.bool (Mx.dA b)] 101 by rw[hW3.o,hgx.o];exact Bx.new w2 _ _);have F3:=beA hW3;have D3:=aa (show Gq w W3 from D2.o.trans (F3.o.mono D2.o.size));have U3:=aa (show Buo S W3 ka kn kc la ln lc (Mx.bS b).op (Mx.bS b).se from U2.o.ext (Ex.below F3.o));have hgw:w.heap.size≤gx:=by rw[hgx.o];exact D2.o.size
     rw[←hW3.o,←hgx.o])
   |(obtain⟨W3,hW3⟩:∃ W3:World,Hid (W3=((((w2.setCell ⟨w.heap.size,0,none⟩ (.int .i64 ((N:Int)+1))).setCell ⟨w.heap.size,1,none⟩ (.slice ka kn kc)).setCell ⟨w.heap.size,2,none⟩ (.slice la ln lc)).setCell ⟨w.heap.size,3,none⟩ (.bool (Mx.dA b)))):=⟨_,rfl⟩
     obtain⟨gx,hgx⟩:∃ gx:Nat,Hid (gx=w.heap.size):=⟨_,rfl⟩
     have U3:=aa (show w2.grownBy W3 (some w.heap.size) by rw[hW3.o];exact ak (ak (ak (ak (aq _ _) _ _) _ _) _ _) _ _);have X3:=aa (show Bx W3 gx #[.int .i64 ((N:Int)+1),.slice ka kn kc,.slice la ln lc,.bool (Mx.dA b)] 101 by rw[hW3.o,hgx.o];exact(((X2.o.set 0 _).set 1 _).set 2 _).set 3 _);have D3:=aa (show Gq w W3 from aM D2.o U3.o (Gi _));have Z3:=aa (show Ex (fun b=>b=w.heap.size) w2 W3 from Ex.one U3.o);have U3:=aa (show Buo S W3 ka kn kc la ln lc (Mx.bS b).op (Mx.bS b).se from(U2.o.ext (Z3.o.mono (fun b _ hb=>.inr hb))).wd (fun b _ hs=>.inl hs));have hgw:w.heap.size≤gx:=by rw[hgx.o];exact Gi _
     rw[←hW3.o,←hgx.o])
  clear x1 x2 x3 x4 x5 yx1 yx2 yx3 yx4 yx5;try clear zc0 zc1 zc2 zc3 zz
  have X4:=aa (HX.o.later D3.o);have M4:=aa (HMW.o.later D3.o);have hgP:¬gx=P:=by omega
  have hgPx:gx<W3.heap.size:=X3.o.lt;go_upto_region 4 with fail
  obtain⟨t0,t1,t2,t3⟩:=Bx.four X3.o;obtain⟨x0,x1,x2,x3,x4,x5,x6,x7,x8,x9,x10,x11,x12,x13⟩:=X4.o.bx.cells;clear x1 x2 x4 x5 x6 x7 x9 x10 x11 x12 x13 t1 t2 t3;obtain⟨bl',hbl',ND⟩:=X4.o.r.nd;have hbe:bl'=bl:=by rw[HBL.o] at hbl';exact(Gg hbl').symm
  subst hbe;have HD:=aa ND;clear ND hbl';have HOP:=aa (X4.o.r.bu.op.1.later (Below.refl _ _).drew);have hgg:gx≠g:=by
   intro e;obtain⟨_,_,_,_,_,_,_,TT,_⟩:=HD.o;have h1:=X3.o;have h2:=TT.bx;unfold Sbx at h2;unfold Bx at h1 h2;rw[e,h2] at h1;simp at h1
  have hgm:gx≠m:=by
   intro e;obtain⟨es,ck,hm⟩:=X4.o.r.mp.is;have h1:=X3.o;unfold Bx at h1;rw[e,hm] at h1;cases h1
  go_region_held3 (fun w'=>w'.cell? ⟨P,0,none⟩=some (.pointer (some ⟨g,0,none⟩))∧w'.cell? ⟨P,3,none⟩=some (.slice oa on oc)∧w'.cell? ⟨P,8,none⟩=some (.int .i64 (p.s:Int))∧w'.cell? ⟨gx,0,none⟩=some (.int .i64 ((N:Int)+1)))
   (first
     | with_reducible exact ⟨x0, x3, x8, t0⟩
     |(simp only[an];with_reducible exact⟨x0,x3,x8,t0⟩)
     | with_reducible exact ⟨y0, y3, y8, ty0⟩)
   (first
     |(go_at_call 44;(with_reducible refine(iK S g n bl' _ _ W3.drew (M4.o.later (Below.refl _ _).drew) (HD.o.later (Below.refl _ _).drew) oa on oc b.op HOP.o HIN.o HON.o ((N:Int)+1) (p.s:Int) (by omega) hN2 (by omega) HS.o).mono ?_);rintro e w4 ⟨rfl,N4,G4,M5⟩;have y0:=G4.o.cell (row:=some g) (a:=⟨P,0,none⟩) x0 (fun e=>NE.o.1 (Gg e));have y3:=G4.o.cell (row:=some g) (a:=⟨P,3,none⟩) x3 (fun e=>NE.o.1 (Gg e));have y8:=G4.o.cell (row:=some g) (a:=⟨P,8,none⟩) x8 (fun e=>NE.o.1 (Gg e));have ty0:=G4.o.cell (row:=some g) (a:=⟨gx,0,none⟩) t0 (fun e=>hgg (Gg e))))
  all_goals
   clear x0 x3 x8 t0 y0 y3 y8 ty0;have GW:=aa (show W3.grownBy w4 (some g) from(bE (Below.refl _ _).drew (some g)).trans G4.o);have Z4:=aa (Ex.one GW.o);have X5:=aa (show Pbx w4 P g n b.num oa on oc sa sn sc b.be m (p.safe:Int) (p.s:Int) (p.base:Int) qa qn qc p.known (p.goal:Int) ha hn hc from Ex.bx Z4.o X4.o.bx NE.o.1);have B5:=aa (Ex.bx Z4.o X3.o hgg);have x0:=X5.o.cells.1;go_upto_region 7 with fail
   go_wp2_with fail;refine(lW S g n _ _ _ w4 N4.o).mono ?_;rintro e w5 ⟨q,rfl,O5,E5⟩;have X6:=aa (show Pbx w5 P g n b.num oa on oc sa sn sc b.be m (p.safe:Int) (p.s:Int) (p.base:Int) qa qn qc p.known (p.goal:Int) ha hn hc from Bx.later X5.o E5.o (Bx.lt X5.o));have B6:=aa (Bx.later B5.o E5.o B5.o.lt);obtain⟨QB,hQC⟩:=au.blo O5.o M5.o (Gi _);have HQB:=aa QB;clear x0 QB;go_upto_region 10 with fail
   have hS4:Hid (Ex S W3 w5):=aa (((Z4.o.mono (fun b _ hb=>by rw[hb];exact X4.o.sub _ X4.o.ag))).trans (Ex.below E5.o));have Z5:=aa (show Ex (fun b=>b=g) W3 w5 from Z4.o.trans (Ex.below E5.o));obtain⟨es,ck,hmp,hse,hsk⟩:=X4.o.r.mp;have HSE:=aa hse;have HSK:=aa hsk;have HMP:=aa (show Mp 3 w5 m es ck from {hmp with at_:=(Z5.o.block m hmp.ltm (fun e=>NE.o.2.2 e.symm)).trans hmp.at_});have HNO:=aa (show ∀ e∈es,e.key≠.int .i64 ((N:Int)+1) from fun e he hk=>by
    obtain⟨k,l,_,_,h5,h6,_⟩:=HSE.o e he;rw[h5] at hk;injection hk with _ hk
    have h7:=hN.o;omega)
   have HM3:=aa hmp;clear hmp hse hsk;obtain⟨W6,hW6⟩:∃ W6:World,Hid (W6=setBlock w5.drew m (.map (eT es (.int .i64 ((N:Int)+1)) (.slice (some ⟨q,0,none⟩) n n) ck).toArray (ck+1))):=⟨_,rfl⟩
   have hmu:(Instr.mapUpdate 102 (.map (some m)) (.int .i64 ((N:Int)+1)) (.slice (some ⟨q,0,none⟩) n n)).run Tryz.prog w5.drew=.ok () W6:=by
    rw[hW6.o];exact Mp.qx eM Tryz.underlying102 (HMP.o.later (Below.refl _ _).drew) (fw (by omega) hN2) HNO.o _
   have G6:=aa (show w5.grownBy W6 (some m) by rw[hW6.o];exact(bE (Below.refl _ _).drew (some m)).trans (fC _));have Z6:=aa (Ex.one G6.o);have A6:=aa (show W6.heap[m]?=some (.map (eT es (.int .i64 ((N:Int)+1)) (.slice (some ⟨q,0,none⟩) n n) ck).toArray (ck+1)) by rw[hW6.o];exact fM HMP.o.ltm _);have x6:=X6.o.cells.2.2.2.2.2.2.1;have t0:w5.cell? ⟨gx,0,none⟩=some (.int .i64 ((N:Int)+1)):=B6.o.cell 0;have y6:W6.cell? ⟨P,6,none⟩=some (.map (some m)):=G6.o.cell (row:=some m) (a:=⟨P,6,none⟩) x6 (fun e=>NE.o.2.1 (Gg e));have ty0:W6.cell? ⟨gx,0,none⟩=some (.int .i64 ((N:Int)+1)):=G6.o.cell (row:=some m) (a:=⟨gx,0,none⟩) t0 (fun e=>hgm (Gg e));clear hW6;go_region_held3 (fun w'=>w'.cell? ⟨P,6,none⟩=some (.map (some m))∧w'.cell? ⟨gx,0,none⟩=some (.int .i64 ((N:Int)+1)))
    (first
      | with_reducible exact ⟨x6, t0⟩
      |(simp only[an];with_reducible exact⟨x6,t0⟩)
      | with_reducible exact ⟨y6, ty0⟩)
    (fail)
   all_goals
    clear x6 t0 y6 ty0 hmu;have B7:=aa (Ex.bx Z6.o B6.o hgm);have X7:=aa (show Pbx W6 P g n b.num oa on oc sa sn sc b.be m (p.safe:Int) (p.s:Int) (p.base:Int) qa qn qc p.known (p.goal:Int) ha hn hc from Ex.bx Z6.o X6.o NE.o.2.1);have M7:=aa ((M5.o.later E5.o).rM Z6.o A6.o);have hS6:Hid (Ex S w5 W6):=aa (Z6.o.mono (fun b _ hb=>by rw[hb];exact X4.o.sub _ X4.o.am));have hS7:=aa (hS4.o.trans hS6.o);have R7:=aa (show PrR S W6 n (ae++[Mx.lay bl' b.op]) (Mx.bS b) {p with ar:=p.ar+1} g ka kn kc la ln lc m qa qn qc ha hn hc from by
     refine⟨⟨Mx.lay bl' b.op,?_,?_⟩,U3.o.ext hS7.o,?_,X4.o.r.qu.oK hS7.o,X4.o.r.qc,X4.o.r.hd.ext hS7.o,X4.o.r.hc,?_⟩
     ·show(ae++[Mx.lay bl' b.op])[p.ar+1]?=_
      rw[←HSL.o,Gl (Gi _),Nat.sub_self];rfl
     ·have h1:=(N4.o.later E5.o).ext Z6.o (fun b hb=>by rw[hb];exact X4.o.sub _ X4.o.am) NE.o.2.2
      have h2:((p.ar+1:Nat):Int)=(N:Int)+1:=by rw[hN.o];push_cast;rfl
      show Nd S W6 g n (Mx.lay bl' b.op) ((p.ar+1:Nat):Int) (p.s:Int)
      rw[h2];exact h1
     ·have hlo:(Mx.bS b).num-((Mx.bS b).se.length:Int)=(p.ar:Int)+1∨b.num-(b.se.length:Int)≤(Mx.bS b).num-((Mx.bS b).se.length:Int):=by
       have h1:=HNB.o;have h2:=hN.o;unfold Mx.bS;simp only;cases Mx.dA b with
       | true => left; simp; omega
       | false => right; simp; omega
      have hq:=HQB.o.ext hS6.o;have h3:=A6.o;rw[hN.o] at h3;refine Snp.push (w:=W3) (es:=es) (ck:=ck) ?_ (HSE.o) HSK.o hS7.o HSL.o _ hq hQC (by have h2:=hN.o;omega) h3 hlo;exact HM3.o
     ·show b.num+1=((p.ar+1:Nat):Int)
      rw[HNB.o,hN.o]
      push_cast
      rfl)
    obtain⟨t0,t1,t2,t3⟩:=Bx.four B7.o;go_upto_region 11 with fail
    go_wp2_with fail;have hl4:(Mx.bS b).se.length≤4:=by
     unfold Mx.bS;simp only;cases hf:Mx.dA b with
     | true => simp
     | false =>
      unfold Mx.dA at hf;simp at hf;have:=HLE.o;simp;omega
    have HKP:=sG A S P n (ae++[Mx.lay bl' b.op]) (Mx.bS b) {p with ar:=p.ar+1} W6 M7.o g b.num oa on oc sa sn sc b.be ka kn kc la ln lc m qa qn qc ha hn hc X7.o R7.o X4.o.aP X4.o.ag X4.o.am X4.o.sub (by have h2:=hN.o;show((p.ar+1:Nat):Int)≤_;omega) hl4;have hk1:(Mx.bS b).num=(N:Int)+1:=by rw[←HNB.o];rfl
    have hk2:(Mx.bS b).be=Mx.dA b:=rfl;rw[hk1,hk2] at HKP;clear hk1 hk2 hl4;refine HKP.mono ?_;clear HKP;rintro e w8 ⟨rfl,P8⟩;clear t0 t1 t2 t3;go_wp2_with fail;have E8:=aa (show Ex A w w8 from(Ex.below D3.o).trans (((Z5.o.mono (fun b _ hb=>by rw[hb];exact X4.o.ag))).trans (((Z6.o.mono (fun b _ hb=>by rw[hb];exact X4.o.am))).trans P8.o.ext)));exact bodyPost_ret (v:=.nilIface) (by simp[results,Tryz.results27,go_sem]) rfl ⟨rfl,aa ⟨P8.o.mu,P8.o.pr,E8.o⟩⟩
end
end Go.Proofs.YtbicgjafjjihdaaGreatDoor
