/- Part. -/
import Derived.Test.YtbicgjafjjihdaaGreatZ17
import Derived.Test.YtbicgjafjjihdaaGreatZ22
import Derived.Test.YtbicgjafjjihdaaGreatZ24
set_option maxHeartbeats 16000000
set_option maxRecDepth 100000
namespace Go.Proofs.YtbicgjafjjihdaaGreat
open Go.RowKit
section
variable {n prev to_ k hv:Nat}
namespace Mx
def Good (n:Nat) (ae:List (List B8)) (prev:Nat) (ij:List B8) (ms:List Fr) (to_:Nat) (eA:List B8):Prop :=
 ∃ (u:Upd) (base fin:List B8),ms=u.msgs∧(∀ q∈u.qs,QW q)∧u.qs.length≤32∧u.to_=(to_:Int) ∧
  ((u.from_=0∧base=List.replicate n zB)∨(u.from_=(prev:Int)∧u.from_≠0∧ae[prev]?=some base)) ∧
  bT ij=0∧qE n u.qs=0∧dI u.qs base ij=[]∧ae[to_]?=some fin∧aD base (aJ u.qs base ij)=fin∧eA=bK ij u.qs∧base.length=n∧(∀ q∈u.qs,by8 q.d)∧(∀ x∈fin,by8 x)
theorem Good.mono {ae more:List (List B8)} {ij eA:List B8} {ms:List Fr} (h:Good n ae prev ij ms to_ eA):Good n (ae++more) prev ij ms to_ eA:=by
 obtain⟨u,base,fin,h1,h2,h3,h4,h5,h6,h7,h8,h9,h10⟩:=h;have hx:∀ {i:Nat} {x:List B8},ae[i]?=some x→(ae++more)[i]?=some x:=by
  intro i x hi;rw[FK (FE.1 hi).1];exact hi
 refine⟨u,base,fin,h1,h2,h3,h4,?_,h6,h7,h8,hx h9,h10⟩;rcases h5 with h5|⟨a,b,c⟩
 ·exact .inl h5
 ·exact .inr ⟨a,b,hx c⟩
theorem rP {l:List B8} {b:B8} (h:db l b=true):0≤eJ l b∧eJ l b<l.length:=by
 have h1:=lv h;unfold atI at h1;split at h1
 ·cases h1
 ·have:=(FE.1 h1).1
  omega
theorem uo {p:Pt} {peer had:List B8} (h0:0≤p.at_) (h1:p.at_<32) (hp:peer.length≤32) (hh:had.length≤32):QW (du p peer had):=by
 unfold du QW;split
 ·exact⟨h0,h1,by simp,by simp,by simp,by simp,fun _=>rfl⟩
 ·split
  ·next h=>have:=rP h;exact⟨h0,h1,by simp,by simp,this.1,by simp only;omega,fun _=>rfl⟩
  ·split
   ·next h=>have:=rP h;exact⟨h0,h1,by simp,by simp,this.1,by simp only;omega,fun _=>rfl⟩
   ·exact⟨h0,h1,by simp,by simp,by simp,by simp,fun h=>absurd rfl h⟩
theorem fH (l:List B8) (ps:List Pt):lay l ps=aD l ps:=rfl
theorem kU (l:List B8) (ps:List Pt):aD l ps=ps.foldl jr l:=rfl
theorem gG {n:Int}:∀ {ps:List Pt} {s:Int},dp n s ps→s≤n→(ps.length:Int)≤n-s
 | [], s, _, h => by simp; omega
 | p :: ps, s, h, hs => by
  have h1:=h.1;have h2:=h.2.1;have ih:=gG h.2.2 (by omega);rw[List.length_cons]
  push_cast
  omega
theorem oR {n:Int}:∀ {ps:List Pt} {s:Int} {l:List B8},dp n s ps→0≤s→n=(l.length:Int)→∀ p∈ps,p.d∈lay l ps
 | [], _, _, _, _, _, p, hp => by simp at hp
 | q :: ps, s, l, h, hs, hl, p, hp => by
  have h1:=h.1;have h2:=h.2.1;show p.d∈lay (dH l q) ps
  rcases List.mem_cons.1 hp with rfl|hp
  ·unfold dH
   rw[mL ps l _ _ (fun r hr=>by have:=dq h.2.2 r hr;omega)];have hlen:(lay l ps).length=l.length:=by rw[fH];exact cP _ _
   exact List.mem_set (by omega) _
  ·exact oR h.2.2 (by omega) (by unfold dH;rw[List.length_set];exact hl) p hp
theorem jQ:by8 zB:=by unfold by8 zB;simp
theorem sE {p:Pt} {peer had:List B8} (h:by8 p.d):by8 (du p peer had).d:=by
 unfold du;split
 ·exact jQ
 ·split
  ·exact jQ
  ·split
   ·exact jQ
   ·exact h
theorem pH (hn:n≤32) {ae:List (List B8)} {had base fin:List B8} {ps:List Pt} {frm:Int} (hr:bB n ps=true) (hh:bT had=0) (hl:base.length=n)
 (hb:(frm=0∧base=List.replicate n zB)∨(frm=(prev:Int)∧frm≠0∧ae[prev]?=some base)) (hf:ae[to_]?=some fin) (hp:aD base ps=fin) (hby:∀ x∈fin,by8 x) :
 Good n ae prev had (Upd.msgs ⟨frm,(to_:Int),pks base had ps⟩) to_ (bK had (pks base had ps)):=by
 have hpp:=BO base had ps;have hrf:=dN hr;have hhl:=((ja had).1 hh).1;refine⟨⟨frm,(to_:Int),pks base had ps⟩,base,fin,rfl,?_,?_,rfl,hb,hh,EH base had hr,hpp.2,hf,?_,rfl,hl,?_,hby⟩
 ·intro q hq
  have hq':q∈(ps.filter (fb base)).map (fun p=>du p base had):=by rw[←ei];exact hq
  obtain⟨p,hp1,rfl⟩:=List.mem_map.1 hq';have h1:=dq hrf p ((List.mem_filter.1 hp1).1);exact uo h1.1 (by omega) (by omega) (by omega)
 ·show(pks base had ps).length≤32
  rw[ei,List.length_map];have h1:=List.length_filter_le (fb base) ps;have h2:=gG hrf (by omega);omega
 ·show aD base (aJ (pks base had ps) base had)=fin
  rw[hpp.1,kU,zE hr,←kU];exact hp
 ·intro q hq
  have hq':q∈(ps.filter (fb base)).map (fun p=>du p base had):=by rw[←ei];exact hq
  obtain⟨p,hp1,rfl⟩:=List.mem_map.1 hq';refine sE (hby _ ?_);rw[←hp,←fH];exact oR hrf (Int.le_refl 0) (by rw[hl]) p ((List.mem_filter.1 hp1).1)
def dD (l:List B8):List Pt:=(List.range l.length).map (fun i:Nat=>⟨(i:Int),l.getD i zB⟩)
theorem kf (l:List B8):(dD l).length=l.length:=by unfold dD;simp
theorem lU {l:List B8} {i:Nat} (h:i<l.length):(dD l)[i]?=some ⟨(i:Int),l.getD i zB⟩:=by
 unfold dD;rw[List.getElem?_map,List.getElem?_range h];rfl
theorem lf (l:List B8):bB l.length (dD l)=true:=by
 refine jt (fun k hk=>?_);rw[kf] at hk;have h1:=lU hk;have h2:(dD l).getD k dP=⟨(k:Int),l.getD k zB⟩:=by rw[Fu,h1];rfl
 have h3:cw (dD l) k=(k:Int):=by
  cases k with
  | zero => rfl
  | succ j =>
   rw[cw,Fu,lU (by omega)];simp
 unfold ey;rw[h2,h3];simp;omega
theorem Cv {l:List B8}:∀ p∈dD l,0≤p.at_∧p.at_<(l.length:Int):=by
 intro p hp;obtain⟨i,hi,rfl⟩:=List.mem_map.1 hp;have:=List.mem_range.1 hi;exact⟨by simp,by simp only;omega⟩
theorem iS (l m:List B8) (h:m.length=l.length):aD m (dD l)=l:=by
 have key:∀ k,k≤l.length→aD m ((dD l).take k)=l.take k++m.drop k:=by
  intro k;induction k with
  | zero => intro _; rfl
  | succ k ih =>
   intro hk;have hk':k<l.length:=by omega
   rw[gq m (dD l) k _ (lU hk'),ih (by omega)];simp only[Int.toNat_natCast];rw[List.set_append_right _ _ (by rw[FI];omega),FI,show k-min k l.length=0 by omega];rw[List.drop_eq_getElem_cons (by omega:k<m.length),List.set_cons_zero,List.take_add_one,Ft hk',List.append_assoc];rw[Fu,Ft hk'];rfl
 have h1:=key l.length (FG _);rw[FH (by rw[kf];omega),FH (FG _),List.drop_of_length_le (by omega),List.append_nil] at h1;exact h1
theorem kN {b:Bu} {n k:Int} (hb:aL b n=0) (hs:cr b n k=true):bB n (bI b n k).aJ=true:=by
 obtain⟨k1,_,k3⟩:=bN hb;have hin:=Ca hb hs;refine uX ?_ (fun q hq=>(hin q hq).2);have hE:(bI b n k).aJ=dU (aK b k):=by unfold bI;rw[hs];rfl
 rw[hE];have hri:=gr (k:=k) k3 k1.2.1;unfold dU;have key:∀ (l acc:List Pt),Rk 0 acc→(∀ q∈l,0≤q.at_∧q.at_<32)→Rk 0 (l.foldl cX acc):=by
  intro l;induction l with
  | nil => intro acc h _; exact h
  | cons p l ih =>
   intro acc h hl;rw[List.foldl_cons];exact ih _ (l3 h (hl p (List.mem_cons_self ..)).1 (hl p (List.mem_cons_self ..)).2) (fun q hq=>hl q (List.mem_cons_of_mem _ hq))
 refine key _ [] trivial (fun q hq=>?_);obtain⟨e,he,hqe⟩:=List.mem_flatMap.1 hq;exact hri e he q hqe
theorem vN (hn:n≤32) {b:Bu} {ae:List (List B8)} {now x had:List B8} (h:gj n b ae now) (hb:b.num=(hv:Int)) (hk:k≤hv) (hs:cr b n (k:Int)=true) (hx:ae[k]?=some x) (hl:x.length=n) (h0:ae[0]?=some (List.replicate n zB)) (hh:bT had=0) (hby:∀ l∈ae,∀ x∈l,by8 x) :
 Good n ae k had (Upd.msgs ⟨(k:Int),(hv:Int),pks x had (bI b n (k:Int)).aJ⟩) hv (bK had (pks x had (bI b n (k:Int)).aJ)):=by
 have h1:=nN h (by omega) (by omega) hs (by rw[Int.toNat_natCast];exact hx);rw[hb,Int.toNat_natCast] at h1;refine pH hn (kN h.may hs) hh hl ?_ h1 (fH _ _).symm (hby _ (FN h1));by_cases hk0:k=0
 ·subst hk0
  rw[h0] at hx;exact .inl ⟨rfl,(FC hx).symm⟩
 ·exact .inr ⟨rfl,by omega,hx⟩
theorem vO (hn:n≤32) {ae:List (List B8)} {y had:List B8} (hy:ae[hv]?=some y) (hl:y.length=n) (hh:bT had=0) (hby:∀ l∈ae,∀ x∈l,by8 x) :
 Good n ae k had (Upd.msgs ⟨0,(hv:Int),pks (List.replicate n zB) had (dD y)⟩) hv (bK had (pks (List.replicate n zB) had (dD y))):=by
 have hr:=lf y;rw[hl] at hr;exact pH hn hr hh (by simp) (.inl ⟨rfl,rfl⟩) hy (iS y _ (by simp[hl])) (hby _ (FN hy))
end Mx
end
theorem yK (n:Nat) (hn:n≤1000):∃ C:Array Value,(∀ w:World,(Instr.makeSlice 87 (.int .i64 0) (.int .i64 (n:Int))).run Tryz.prog w=.ok (.slice (some ⟨w.heap.size,0,none⟩) 0 n) (w.alloc (.cells C 111))) ∧
 Hid (∀ (w:World) (base:Nat),base≤w.heap.size→bh (w.alloc (.cells C 111)) base (.slice (some ⟨w.heap.size,0,none⟩) 0 n) []):=by
 obtain⟨i0,hi,hz0,hz1,hz2⟩:=info_parts Tryz.info111;refine⟨madeCells #[Value.int .i64 0,.int .u8 0,.int .u8 0,.int .u8 0,.int .u8 0,.int .u8 0,.int .u8 0,.int .u8 0,.int .u8 0] (n*9),fun w=>?_,fun w base hb=>?_⟩
 ·have h:=run_makeSlice (P:=Tryz.prog) w 87 111 i0 _ Tryz.underlying87 hi hz0 .i64 .i64 (0:Int) (n:Int) (by omega) (by omega) (by rw[hz1];simp;omega) (by rw[hz2];omega) (by omega)
  rw[hz1] at h;simpa [Value.cells] using h
 ·exact World.ownsRow_made w _ n hb (by unfold maxLen;omega) (size_madeCells _ _)
theorem Mx.xE {l:List B8} {k:Nat} {x:B8} (h:l[k]?=some x):(Mx.dD l).take (k+1)=(Mx.dD l).take k++[⟨(k:Int),x⟩]:=by
 have hk:=(FE.1 h).1;rw[List.take_add_one,Mx.lU hk,Fu,h];rfl
theorem jG (a:Option Addr) (n c:Nat) (l:List B8) (w:World) (hl:BL w a n l) (hn:n≤1000) :
 Calls Tryz.prog 126 #[.slice a n c] w fun e w'=>∃ a' c',e=.returned (.slice a' n c')∧Hid (bh w' w.heap.size (.slice a' n c') (Mx.dD l))∧Hid (Below w.heap.size w w'):=by
 obtain⟨C,hC,HC⟩:=yK n hn;have HL:=aa hl;have hll:=hl.1;have HLL:=aa hll;clear hl hll;obtain⟨W0,hW0⟩:∃ W0:World,Hid (W0=w.alloc (.cells C 111)):=⟨_,rfl⟩
 have D0:=beA hW0;have O0:=aa (show bh W0 w.heap.size (.slice (some ⟨w.heap.size,0,none⟩) 0 n) [] by rw[hW0.o];exact HC.o w w.heap.size (FG _));clear HC;go_enter Tryz.func126,Tryz.ntmps126;go_wp2_with fail;rw[←hW0.o];go_wp2_with fail;clear hC;go_loopw [3,11] (fun v t wr=>∃ (k:Nat) (ad:Option Addr) (cc:Nat),t=.int .i64 (k:Int)∧v=.slice ad k cc∧k≤n∧Hid (bh wr w.heap.size (.slice ad k cc) ((Mx.dD l).take k))∧Hid (Below w.heap.size w wr)) (fun _ t _=>n-(intOf t).toNat)
 case atStart=>exact⟨0,_,_,rfl,rfl,Nat.zero_le _,by rw[List.take_zero];exact O0,D0⟩
 case round =>
  obtain⟨k,ad,cc,rfl,rfl,hk,hO,hB⟩:=hrel;by_cases hlt:k<n
  ·have hlti:(k:Int)<n:=by omega
   obtain⟨b,off,x,ha,hbw,hx,c0,c1,c2,c3,c4,c5,c6,c7⟩:=(HL.o.later hB.o).at_ k hlt;subst ha;have HX:=aa hx;clear hx;obtain⟨W1,hW1⟩:∃ W1:World,Hid (W1=wr.alloc (.cells #[.int .u8 x.z0,.int .u8 x.z1,.int .u8 x.z2,.int .u8 x.z3,.int .u8 x.z4,.int .u8 x.z5,.int .u8 x.z6,.int .u8 x.z7] 25)):=⟨_,rfl⟩
   have X1:=bxA hW1;have B1:=aa (show Below w.heap.size w W1 by rw[hW1.o];exact hB.o.alloc hB.o.size _);have O1:=aa (show bh W1 w.heap.size (.slice ad k cc) ((Mx.dD l).take k) by rw[hW1.o];exact World.ownsRow.alloc hO.o _);have S1:=aa B1.o.size;go_upto_region 5 with fail
   rw[←hW1.o];obtain⟨x0,x1,x2,x3,x4,x5,x6,x7⟩:=X1.o.eight;clear c0 c1 c2 c3 c4 c5 c6 c7;have HK:=aa (show((Mx.dD l).take k).length=k by rw[FI,Mx.kf,HLL.o];omega);obtain⟨T,hT⟩:∃ T:List Pt,Hid (T=(Mx.dD l).take k):=⟨_,rfl⟩
   rw[←hT.o] at O1 HK;go_wp2_with (at_builtin;refine et rfl _ _ rfl w.heap.size T ?o1 ⟨(k:Int),x⟩ ?o2 ?o3 ?o4 ?_);case o1=>exact O1.o
   case o2=>rfl
   case o3=>rw[HK.o];omega
   case o4=>exact S1.o
   rw[HK.o];intro ad2 c2 w3 hown hgr;rw[hT.o,←Mx.xE HX.o] at hown;have O3:=aa hown;have B3:=aa (B1.o.grown hgr S1.o (fun k hk=>(World.ownsRow.lt O1.o k hk).1));clear hown hgr x0 x1 x2 x3 x4 x5 x6 x7;go_wp2_with fail;go_roundw
   case rel=>exact⟨k+1,some ad2,c2,by go_num,rfl,by omega,O3,B3⟩
   case measure=>simp[intOf];omega
  ·obtain rfl:k=n:=by omega
   go_wp2_with fail;go_ret;exact⟨ad,cc,rfl,by rw[FH (by rw[Mx.kf,HLL.o];exact FG _)] at hO;exact hO,hB⟩
end Go.Proofs.YtbicgjafjjihdaaGreat
