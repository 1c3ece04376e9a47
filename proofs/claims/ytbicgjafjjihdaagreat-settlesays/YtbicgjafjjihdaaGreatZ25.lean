/- Part. -/
import Derived.Test.YtbicgjafjjihdaaGreatZ17
import Derived.Test.YtbicgjafjjihdaaGreatZ23
import Derived.Test.YtbicgjafjjihdaaGreatZ24
set_option maxHeartbeats 16000000
set_option maxRecDepth 100000
namespace Go.Proofs.YtbicgjafjjihdaaGreat
open Go.RowKit
section
variable {n prev to_ k hv:Nat}
namespace Mx
def Good (n:Nat) (ae:List (List B8)) (prev:Nat) (ij:List B8) (ms:List Fr) (to_:Nat) (eA:List B8):Prop :=
 ∃ (u:Upd) (base fin:List B8),ms=u.msgs∧(∀ q∈u.qs,QW q)∧u.qs.length≤32∧u.to_=(to_:Int) ∧
  ((u.from_=0∧base=List.replicate n zB)∨(u.from_=(prev:Int)∧u.from_≠0∧ae[prev]?=some base)) ∧
  bS ij=0∧qE n u.qs=0∧dL u.qs base ij=[]∧ae[to_]?=some fin∧aC base (aH u.qs base ij)=fin∧eA=bL ij u.qs∧base.length=n∧(∀ q∈u.qs,by8 q.d)∧(∀ x∈fin,by8 x)
theorem Good.mono {ae more:List (List B8)} {ij eA:List B8} {ms:List Fr} (h:Good n ae prev ij ms to_ eA):Good n (ae++more) prev ij ms to_ eA:=by
 obtain⟨u,base,fin,h1,h2,h3,h4,h5,h6,h7,h8,h9,h10⟩:=h;have hx:∀ {i:Nat} {x:List B8},ae[i]?=some x→(ae++more)[i]?=some x:=by
  intro i x hi;rw[Fw (Fp.1 hi).1];exact hi
 refine⟨u,base,fin,h1,h2,h3,h4,?_,h6,h7,h8,hx h9,h10⟩;rcases h5 with h5|⟨a,b,c⟩
 ·exact .inl h5
 ·exact .inr ⟨a,b,hx c⟩
theorem rU {l:List B8} {b:B8} (h:cX l b=true):0≤eQ l b∧eQ l b<l.length:=by
 have h1:=lz h;unfold atI at h1;split at h1
 ·cases h1
 ·have:=(Fp.1 h1).1
  omega
theorem uA {p:Pt} {peer had:List B8} (h0:0≤p.at_) (h1:p.at_<32) (hp:peer.length≤32) (hh:had.length≤32):QW (dq p peer had):=by
 unfold dq QW;split
 ·exact⟨h0,h1,by simp,by simp,by simp,by simp,fun _=>rfl⟩
 ·split
  ·next h=>have:=rU h;exact⟨h0,h1,by simp,by simp,this.1,by simp only;omega,fun _=>rfl⟩
  ·split
   ·next h=>have:=rU h;exact⟨h0,h1,by simp,by simp,this.1,by simp only;omega,fun _=>rfl⟩
   ·exact⟨h0,h1,by simp,by simp,by simp,by simp,fun h=>absurd rfl h⟩
theorem fG (l:List B8) (ps:List Pt):lay l ps=aC l ps:=rfl
theorem kQ (l:List B8) (ps:List Pt):aC l ps=ps.foldl jh l:=rfl
theorem gp {n:Int}:∀ {ps:List Pt} {s:Int},de n s ps→s≤n→(ps.length:Int)≤n-s
 | [], s, _, h => by simp; omega
 | p :: ps, s, h, hs => by
  have h1:=h.1;have h2:=h.2.1;have ih:=gp h.2.2 (by omega);rw[List.length_cons]
  push_cast
  omega
theorem oz {n:Int}:∀ {ps:List Pt} {s:Int} {l:List B8},de n s ps→0≤s→n=(l.length:Int)→∀ p∈ps,p.d∈lay l ps
 | [], _, _, _, _, _, p, hp => by simp at hp
 | q :: ps, s, l, h, hs, hl, p, hp => by
  have h1:=h.1;have h2:=h.2.1;show p.d∈lay (dK l q) ps
  rcases List.mem_cons.1 hp with rfl|hp
  ·unfold dK
   rw[mJ ps l _ _ (fun r hr=>by have:=dj h.2.2 r hr;omega)];have hlen:(lay l ps).length=l.length:=by rw[fG];exact cP _ _
   exact List.mem_set (by omega) _
  ·exact oz h.2.2 (by omega) (by unfold dK;rw[List.length_set];exact hl) p hp
theorem j4:by8 zB:=by unfold by8 zB;simp
theorem sU {p:Pt} {peer had:List B8} (h:by8 p.d):by8 (dq p peer had).d:=by
 unfold dq;split
 ·exact j4
 ·split
  ·exact j4
  ·split
   ·exact j4
   ·exact h
theorem pg (hn:n≤32) {ae:List (List B8)} {had base fin:List B8} {ps:List Pt} {frm:Int} (hr:bB n ps=true) (hh:bS had=0) (hl:base.length=n)
 (hb:(frm=0∧base=List.replicate n zB)∨(frm=(prev:Int)∧frm≠0∧ae[prev]?=some base)) (hf:ae[to_]?=some fin) (hp:aC base ps=fin) (hby:∀ x∈fin,by8 x) :
 Good n ae prev had (Upd.msgs ⟨frm,(to_:Int),pks base had ps⟩) to_ (bL had (pks base had ps)):=by
 have hpp:=By base had ps;have hrf:=dM hr;have hhl:=((je had).1 hh).1;refine⟨⟨frm,(to_:Int),pks base had ps⟩,base,fin,rfl,?_,?_,rfl,hb,hh,Eg base had hr,hpp.2,hf,?_,rfl,hl,?_,hby⟩
 ·intro q hq
  have hq':q∈(ps.filter (fe base)).map (fun p=>dq p base had):=by rw[←ei];exact hq
  obtain⟨p,hp1,rfl⟩:=List.mem_map.1 hq';have h1:=dj hrf p ((List.mem_filter.1 hp1).1);exact uA h1.1 (by omega) (by omega) (by omega)
 ·show(pks base had ps).length≤32
  rw[ei,List.length_map];have h1:=List.length_filter_le (fe base) ps;have h2:=gp hrf (by omega);omega
 ·show aC base (aH (pks base had ps) base had)=fin
  rw[hpp.1,kQ,xG hr,←kQ];exact hp
 ·intro q hq
  have hq':q∈(ps.filter (fe base)).map (fun p=>dq p base had):=by rw[←ei];exact hq
  obtain⟨p,hp1,rfl⟩:=List.mem_map.1 hq';refine sU (hby _ ?_);rw[←hp,←fG];exact oz hrf (Int.le_refl 0) (by rw[hl]) p ((List.mem_filter.1 hp1).1)
def dF (l:List B8):List Pt:=(List.range l.length).map (fun i:Nat=>⟨(i:Int),l.getD i zB⟩)
theorem kp (l:List B8):(dF l).length=l.length:=by unfold dF;simp
theorem lU {l:List B8} {i:Nat} (h:i<l.length):(dF l)[i]?=some ⟨(i:Int),l.getD i zB⟩:=by
 unfold dF;rw[List.getElem?_map,List.getElem?_range h];rfl
theorem lK (l:List B8):bB l.length (dF l)=true:=by
 refine jt (fun k hk=>?_);rw[kp] at hk;have h1:=lU hk;have h2:(dF l).getD k dP=⟨(k:Int),l.getD k zB⟩:=by rw[Fh,h1];rfl
 have h3:cw (dF l) k=(k:Int):=by
  cases k with
  | zero => rfl
  | succ j =>
   rw[cw,Fh,lU (by omega)];simp
 unfold eB;rw[h2,h3];simp;omega
theorem Ch {l:List B8}:∀ p∈dF l,0≤p.at_∧p.at_<(l.length:Int):=by
 intro p hp;obtain⟨i,hi,rfl⟩:=List.mem_map.1 hp;have:=List.mem_range.1 hi;exact⟨by simp,by simp only;omega⟩
theorem jd (l m:List B8) (h:m.length=l.length):aC m (dF l)=l:=by
 have key:∀ k,k≤l.length→aC m ((dF l).take k)=l.take k++m.drop k:=by
  intro k;induction k with
  | zero => intro _; rfl
  | succ k ih =>
   intro hk;have hk':k<l.length:=by omega
   rw[gy m (dF l) k _ (lU hk'),ih (by omega)];simp only[Int.toNat_natCast];rw[List.set_append_right _ _ (by rw[Fu];omega),Fu,show k-min k l.length=0 by omega];rw[List.drop_eq_getElem_cons (by omega:k<m.length),List.set_cons_zero,List.take_add_one,Fg hk',List.append_assoc];rw[Fh,Fg hk'];rfl
 have h1:=key l.length (Fq _);rw[Ft (by rw[kp];omega),Ft (Fq _),List.drop_of_length_le (by omega),List.append_nil] at h1;exact h1
theorem kL {b:Bu} {n k:Int} (hb:aJ b n=0) (hs:cq b n k=true):bB n (bG b n k).aH=true:=by
 obtain⟨k1,_,k3⟩:=bN hb;have hin:=Ai hb hs;refine uF ?_ (fun q hq=>(hin q hq).2);have hE:(bG b n k).aH=dU (aI b k):=by unfold bG;rw[hs];rfl
 rw[hE];have hri:=gj (k:=k) k3 k1.2.1;unfold dU;have key:∀ (l acc:List Pt),Rk 0 acc→(∀ q∈l,0≤q.at_∧q.at_<32)→Rk 0 (l.foldl cU acc):=by
  intro l;induction l with
  | nil => intro acc h _; exact h
  | cons p l ih =>
   intro acc h hl;rw[List.foldl_cons];exact ih _ (lT h (hl p (List.mem_cons_self ..)).1 (hl p (List.mem_cons_self ..)).2) (fun q hq=>hl q (List.mem_cons_of_mem _ hq))
 refine key _ [] trivial (fun q hq=>?_);obtain⟨e,he,hqe⟩:=List.mem_flatMap.1 hq;exact hri e he q hqe
theorem vT (hn:n≤32) {b:Bu} {ae:List (List B8)} {now x had:List B8} (h:gm n b ae now) (hb:b.num=(hv:Int)) (hk:k≤hv) (hs:cq b n (k:Int)=true) (hx:ae[k]?=some x) (hl:x.length=n) (h0:ae[0]?=some (List.replicate n zB)) (hh:bS had=0) (hby:∀ l∈ae,∀ x∈l,by8 x) :
 Good n ae k had (Upd.msgs ⟨(k:Int),(hv:Int),pks x had (bG b n (k:Int)).aH⟩) hv (bL had (pks x had (bG b n (k:Int)).aH)):=by
 have h1:=nU h (by omega) (by omega) hs (by rw[Int.toNat_natCast];exact hx);rw[hb,Int.toNat_natCast] at h1;refine pg hn (kL h.may hs) hh hl ?_ h1 (fG _ _).symm (hby _ (Fy h1));by_cases hk0:k=0
 ·subst hk0
  rw[h0] at hx;exact .inl ⟨rfl,(Fo hx).symm⟩
 ·exact .inr ⟨rfl,by omega,hx⟩
theorem xe (hn:n≤32) {ae:List (List B8)} {y had:List B8} (hy:ae[hv]?=some y) (hl:y.length=n) (hh:bS had=0) (hby:∀ l∈ae,∀ x∈l,by8 x) :
 Good n ae k had (Upd.msgs ⟨0,(hv:Int),pks (List.replicate n zB) had (dF y)⟩) hv (bL had (pks (List.replicate n zB) had (dF y))):=by
 have hr:=lK y;rw[hl] at hr;exact pg hn hr hh (by simp) (.inl ⟨rfl,rfl⟩) hy (jd y _ (by simp[hl])) (hby _ (Fy hy))
end Mx
end
theorem zQ (n:Nat) (hn:n≤1000):∃ C:Array Value,(∀ w:World,(Instr.makeSlice 87 (.int .i64 0) (.int .i64 (n:Int))).run Tryz.prog w=.ok (.slice (some ⟨w.heap.size,0,none⟩) 0 n) (w.alloc (.cells C 111))) ∧
 Hid (∀ (w:World) (base:Nat),base≤w.heap.size→bg (w.alloc (.cells C 111)) base (.slice (some ⟨w.heap.size,0,none⟩) 0 n) []):=by
 obtain⟨i0,hi,hz0,hz1,hz2⟩:=info_parts Tryz.info111;refine⟨madeCells #[Value.int .i64 0,.int .u8 0,.int .u8 0,.int .u8 0,.int .u8 0,.int .u8 0,.int .u8 0,.int .u8 0,.int .u8 0] (n*9),fun w=>?_,fun w base hb=>?_⟩
 ·have h:=run_makeSlice (P:=Tryz.prog) w 87 111 i0 _ Tryz.underlying87 hi hz0 .i64 .i64 (0:Int) (n:Int) (by omega) (by omega) (by rw[hz1];simp;omega) (by rw[hz2];omega) (by omega)
  rw[hz1] at h;simpa [Value.cells] using h
 ·exact World.ownsRow_made w _ n hb (by unfold maxLen;omega) (size_madeCells _ _)
theorem Mx.yR {l:List B8} {k:Nat} {x:B8} (h:l[k]?=some x):(Mx.dF l).take (k+1)=(Mx.dF l).take k++[⟨(k:Int),x⟩]:=by
 have hk:=(Fp.1 h).1;rw[List.take_add_one,Mx.lU hk,Fh,h];rfl
theorem jy (a:Option Addr) (n c:Nat) (l:List B8) (w:World) (hl:BL w a n l) (hn:n≤1000) :
 Calls Tryz.prog 126 #[.slice a n c] w fun e w'=>∃ a' c',e=.returned (.slice a' n c')∧Hid (bg w' w.heap.size (.slice a' n c') (Mx.dF l))∧Hid (Below w.heap.size w w'):=by
 obtain⟨C,hC,HC⟩:=zQ n hn;have HL:=aa hl;have hll:=hl.1;have HLL:=aa hll;clear hl hll;obtain⟨W0,hW0⟩:∃ W0:World,Hid (W0=w.alloc (.cells C 111)):=⟨_,rfl⟩
 have D0:=beA hW0;have O0:=aa (show bg W0 w.heap.size (.slice (some ⟨w.heap.size,0,none⟩) 0 n) [] by rw[hW0.o];exact HC.o w w.heap.size (Fq _));clear HC;go_enter Tryz.func126,Tryz.ntmps126;go_wp2_with fail;rw[←hW0.o];go_wp2_with fail;clear hC;go_loopw [3,11] (fun v t wr=>∃ (k:Nat) (ad:Option Addr) (cc:Nat),t=.int .i64 (k:Int)∧v=.slice ad k cc∧k≤n∧Hid (bg wr w.heap.size (.slice ad k cc) ((Mx.dF l).take k))∧Hid (Below w.heap.size w wr)) (fun _ t _=>n-(intOf t).toNat)
 case atStart=>exact⟨0,_,_,rfl,rfl,Nat.zero_le _,by rw[List.take_zero];exact O0,D0⟩
 case round =>
  obtain⟨k,ad,cc,rfl,rfl,hk,hO,hB⟩:=hrel;by_cases hlt:k<n
  ·have hlti:(k:Int)<n:=by omega
   obtain⟨b,off,x,ha,hbw,hx,c0,c1,c2,c3,c4,c5,c6,c7⟩:=(HL.o.later hB.o).at_ k hlt;subst ha;have HX:=aa hx;clear hx;obtain⟨W1,hW1⟩:∃ W1:World,Hid (W1=wr.alloc (.cells #[.int .u8 x.z0,.int .u8 x.z1,.int .u8 x.z2,.int .u8 x.z3,.int .u8 x.z4,.int .u8 x.z5,.int .u8 x.z6,.int .u8 x.z7] 25)):=⟨_,rfl⟩
   have X1:=bxA hW1;have B1:=aa (show Below w.heap.size w W1 by rw[hW1.o];exact hB.o.alloc hB.o.size _);have O1:=aa (show bg W1 w.heap.size (.slice ad k cc) ((Mx.dF l).take k) by rw[hW1.o];exact World.ownsRow.alloc hO.o _);have S1:=aa B1.o.size;go_upto_region 5 with fail
   rw[←hW1.o];obtain⟨x0,x1,x2,x3,x4,x5,x6,x7⟩:=X1.o.eight;clear c0 c1 c2 c3 c4 c5 c6 c7;have HK:=aa (show((Mx.dF l).take k).length=k by rw[Fu,Mx.kp,HLL.o];omega);obtain⟨T,hT⟩:∃ T:List Pt,Hid (T=(Mx.dF l).take k):=⟨_,rfl⟩
   rw[←hT.o] at O1 HK;go_wp2_with (at_builtin;refine ew rfl _ _ rfl w.heap.size T ?o1 ⟨(k:Int),x⟩ ?o2 ?o3 ?o4 ?_);case o1=>exact O1.o
   case o2=>rfl
   case o3=>rw[HK.o];omega
   case o4=>exact S1.o
   rw[HK.o];intro ad2 c2 w3 hown hgr;rw[hT.o,←Mx.yR HX.o] at hown;have O3:=aa hown;have B3:=aa (B1.o.grown hgr S1.o (fun k hk=>(World.ownsRow.lt O1.o k hk).1));clear hown hgr x0 x1 x2 x3 x4 x5 x6 x7;go_wp2_with fail;go_roundw
   case rel=>exact⟨k+1,some ad2,c2,by go_num,rfl,by omega,O3,B3⟩
   case measure=>simp[intOf];omega
  ·obtain rfl:k=n:=by omega
   go_wp2_with fail;go_ret;exact⟨ad,cc,rfl,by rw[Ft (by rw[Mx.kp,HLL.o];exact Fq _)] at hO;exact hO,hB⟩
end Go.Proofs.YtbicgjafjjihdaaGreat
