/- Part. -/
import Derived.Test.YtbicgjafjjihdaaGreatZ20
import Derived.Test.YtbicgjafjjihdaaGreatZ21
set_option maxHeartbeats 16000000
set_option maxRecDepth 100000
namespace Go.Proofs.YtbicgjafjjihdaaGreat
open Go.RowKit
section
variable {n i:Int} {k:Nat}
namespace Mx
def dQ:Pk:=⟨0,0,0,zB⟩
def fO (qs:List Pk):Nat→Int
 | 0 => 0
 | k + 1 => (qs.getD k dQ).at_ + 1
def qOk (n nx:Int) (q:Pk):Bool:=decide (nx≤q.at_) && (decide (q.at_<n) && (decide (0≤q.kind) && decide (q.kind<4)))
def gT (n:Int) (qs:List Pk) (k:Nat):Bool:=qOk n (fO qs k) (qs.getD k dQ)
def gD (n:Int) (qs:List Pk):Bool:=(List.range qs.length).all (gT n qs)
def qE (n:Int) (qs:List Pk):Int:=if gD n qs=true then 0 else 1
theorem zK {qs:List Pk} (hk:k<qs.length) (h:gT n qs k=false):gD n qs=false:=by
 unfold gD;rw[List.all_eq_false];exact⟨k,List.mem_range.2 hk,by rw[h];simp⟩
theorem zJ {qs:List Pk} {q:Pk} (hq:qs[k]?=some q) (h:qOk n (fO qs k) q=false):qE n qs=1:=by
 rw[qE,zK (k:=k) (FE.1 hq).1 (by unfold gT;rw[Fu,hq];exact h)];rfl
def qTo (n:Int) (qs:List Pk) (k:Nat):Prop:=∀ j,j<k→gT n qs j=true
theorem sO (n:Int) (qs:List Pk):qTo n qs 0:=fun _ hj=>absurd hj (by omega)
theorem sM {qs:List Pk} (h:qTo n qs k):0≤fO qs k:=by
 induction k with
 | zero => exact Int.le_refl _
 | succ k ih =>
  have h1:=h k (by omega);have h2:=ih (fun j hj=>h j (by omega));unfold gT qOk at h1;simp only[Bool.and_eq_true,decide_eq_true_eq] at h1;show 0≤(qs.getD k dQ).at_+1
  omega
theorem sN {qs:List Pk} {q:Pk} (h:qTo n qs k) (hq:qs[k]?=some q) (hg:qOk n (fO qs k) q=true):qTo n qs (k+1):=by
 intro j hj;rcases Nat.lt_succ_iff_lt_or_eq.1 hj with h1|h1
 ·exact h j h1
 ·subst h1
  unfold gT;rw[Fu,hq];exact hg
theorem kI {qs:List Pk} {q:Pk} (hq:qs[k]?=some q):fO qs (k+1)=q.at_+1:=by
 rw[fO,Fu,hq];rfl
theorem zI {qs:List Pk} (h:qTo n qs k) (hk:qs.length≤k):qE n qs=0:=by
 rw[qE,show gD n qs=true by
  unfold gD;rw[List.all_eq_true];exact fun j hj=>h j (by have:=List.mem_range.1 hj;omega)]
 rfl
theorem Fa {qs:List Pk} (h:qE n qs=0) {q:Pk} (hq:qs[k]?=some q):0≤q.at_∧q.at_<n∧0≤q.kind∧q.kind<4:=by
 have h0:gD n qs=true:=by
  unfold qE at h;by_cases h1:gD n qs=true
  ·exact h1
  ·rw[if_neg h1] at h
   exact absurd h (by omega)
 have hT:∀ j,j<qs.length→gT n qs j=true:=by
  unfold gD at h0;rw[List.all_eq_true] at h0;exact fun j hj=>h0 j (List.mem_range.2 hj)
 have hk:=(FE.1 hq).1;have hx:=sM (n:=n) (k:=k) (fun j hj=>hT j (by omega));have h1:=hT k hk;unfold gT qOk at h1;rw[Fu,hq] at h1;simp only[Bool.and_eq_true,decide_eq_true_eq,Option.getD_some] at h1;omega
def atI (l:List B8) (i:Int):Option B8:=if i<0 then none else l[i.toNat]?
theorem ry {l:List B8} (h:i<0∨(l.length:Int)≤i):atI l i=none:=by
 unfold atI;split
 ·rfl
 ·exact List.getElem?_eq_none (by omega)
theorem rA {l:List B8} {y:B8} (h:i=k) (hy:l[k]?=some y):atI l i=some y:=by
 subst h;rw[atI,if_neg (by omega),Int.toNat_natCast,hy]
def cg (q:Pk) (peer had:List B8):Option B8:=if q.kind=0 then some zB else if q.kind=3 then some q.d else if q.kind=2 then atI had q.from_ else atI peer q.from_
def jK (q:Pk) (peer had:List B8):List Pt:=match cg q peer had with|some d=>[⟨q.at_,d⟩]|none=>[]
def mO (q:Pk) (peer had:List B8):List Int:=match cg q peer had with|some _=>[]|none=>[q.at_]
def aJ (qs:List Pk) (peer had:List B8):List Pt:=qs.flatMap (fun q=>jK q peer had)
def dI (qs:List Pk) (peer had:List B8):List Int:=qs.flatMap (fun q=>mO q peer had)
theorem iA {α β:Type} (f:α→List β) {l:List α} {x:α} (h:l[k]?=some x):(l.take (k+1)).flatMap f=(l.take k).flatMap f++f x:=by
 rw[List.take_add_one,h,List.flatMap_append];simp
theorem ly {α β:Type} (f:α→List β) (h1:∀ x,(f x).length≤1):∀ l:List α,(l.flatMap f).length≤l.length
 | [] => by simp
 | x :: l => by
  have h:=ly f h1 l;rw[List.flatMap_cons,Fy,List.length_cons];have:=h1 x;omega
theorem zG {qs:List Pk} {peer had:List B8} {q:Pk} {d:B8} (h:qs[k]?=some q) (hs:cg q peer had=some d):aJ (qs.take (k+1)) peer had=aJ (qs.take k) peer had++[⟨q.at_,d⟩]∧dI (qs.take (k+1)) peer had=dI (qs.take k) peer had:=by
 unfold aJ dI;rw[iA _ h,iA _ h,show jK q peer had=[⟨q.at_,d⟩] by rw[jK,hs],show mO q peer had=[] by rw[mO,hs],List.append_nil];exact⟨rfl,rfl⟩
theorem zF {qs:List Pk} {peer had:List B8} {q:Pk} (h:qs[k]?=some q) (hs:cg q peer had=none):aJ (qs.take (k+1)) peer had=aJ (qs.take k) peer had∧dI (qs.take (k+1)) peer had=dI (qs.take k) peer had++[q.at_]:=by
 unfold aJ dI;rw[iA _ h,iA _ h,show jK q peer had=[] by rw[jK,hs],show mO q peer had=[q.at_] by rw[mO,hs],List.append_nil];exact⟨rfl,rfl⟩
theorem BM (qs:List Pk) (peer had:List B8):(aJ qs peer had).length≤qs.length:=ly _ (fun q=>by unfold jK;split<;>simp) qs
theorem Bf (qs:List Pk) (peer had:List B8):(dI qs peer had).length≤qs.length:=ly _ (fun q=>by unfold mO;split<;>simp) qs
def bK (had:List B8) (qs:List Pk):List B8:=qs.foldl (fun l q=>if q.kind=3 then Mx.bg l q.d else l) had
theorem nJ {had:List B8} {qs:List Pk} {q:Pk} (h:qs[k]?=some q):bK had (qs.take (k+1))=if q.kind=3 then Mx.bg (bK had (qs.take k)) q.d else bK had (qs.take k):=by
 unfold bK;rw[List.take_add_one,h,List.foldl_append];rfl
theorem ja (l:List B8):bT l=0↔l.length≤8∧l.Nodup:=by
 unfold bT;by_cases h:8<l.length
 ·rw[if_pos h]
  constructor
  ·intro h1
   exact absurd h1 (by omega)
  ·intro h1
   omega
 ·rw[if_neg h]
  by_cases h2:l.Nodup
  ·rw[if_pos h2]
   exact⟨fun _=>⟨by omega,h2⟩,fun _=>rfl⟩
  ·rw[if_neg h2]
   exact⟨fun h1=>absurd h1 (by omega),fun h1=>absurd h1.2 h2⟩
theorem rW {l:List B8} (b:B8) (h:bT l=0):bT (bg l b)=0:=by
 rw[ja] at h ⊢;refine⟨my l b,?_⟩;unfold bg;refine List.Sublist.nodup (List.take_sublist _ _) ?_;rw[List.nodup_cons];exact⟨by simp,h.2.filter _⟩
theorem pK {had:List B8} (h:bT had=0):∀ (qs:List Pk),bT (bK had qs)=0:=by
 intro qs;unfold bK;induction qs generalizing had with
 | nil => exact h
 | cons q qs ih =>
  rw[List.foldl_cons];refine ih ?_;by_cases hq:q.kind=3
  ·rw[if_pos hq]
   exact rW _ h
  ·rw[if_neg hq]
   exact h
end Mx
end
section
variable {n:Int}
namespace Mx
def fb (peer:List B8) (p:Pt):Bool:=decide (¬peer[p.at_.toNat]?=some p.d)
theorem ei (peer had:List B8) (ps:List Pt):pks peer had ps=(ps.filter (fb peer)).map (fun p=>du p peer had):=by
 induction ps with
 | nil => rfl
 | cons p ps ih =>
  have e:pks peer had (p::ps)=kG peer had p++pks peer had ps:=by simp[pks]
  rw[e,ih];unfold kG;by_cases h:peer[p.at_.toNat]?=some p.d
  ·rw[if_pos h,List.filter_cons_of_neg (by simp[fb,h])]
   rfl
  ·rw[if_neg h,List.filter_cons_of_pos (by simp[fb,h])]
   rfl
theorem vH {l:List B8} {b:B8} (h:b∈l):atI l (dS l b)=some b:=by
 obtain⟨j,hj⟩:=List.getElem?_of_mem h;have key:∃ k:Nat,l[k]?=some b∧∀ i:Nat,i<k→l[i]?≠some b:=by
  induction j using Nat.strongRecOn with
  | _ j ih =>
   by_cases hx:∃ i,i<j∧l[i]?=some b
   ·obtain⟨i,hi,hib⟩:=hx
    exact ih i hi hib
   ·exact⟨j,hj,fun i hi hib=>hx ⟨i,hi,hib⟩⟩
 obtain⟨k,hk,hmin⟩:=key;rw[pD hk hmin];exact rA rfl hk
theorem yl {l:List B8} {b:B8}:db l b=true↔b∈l:=by
 unfold db;rw[kT];simp
theorem lv {l:List B8} {b:B8} (h:db l b=true):atI l (eJ l b)=some b:=by
 have h0:0≤dS l b:=by simpa [db] using h
 rw[eJ,if_neg (by omega)];exact vH (yl.1 h)
theorem qj (p:Pt) (peer had:List B8):cg (du p peer had) peer had=some p.d∧(du p peer had).at_=p.at_∧0≤(du p peer had).kind∧(du p peer had).kind<4:=by
 unfold du;by_cases h0:p.d=zB
 ·rw[if_pos h0]
  refine⟨?_,rfl,by simp,by simp⟩;rw[cg,if_pos rfl,h0]
 ·rw[if_neg h0]
  by_cases h1:db peer p.d=true
  ·rw[if_pos h1]
   refine⟨?_,rfl,by simp,by simp⟩;simp only[cg];exact lv h1
  ·rw[if_neg h1]
   by_cases h2:db had p.d=true
   ·rw[if_pos h2]
    refine⟨?_,rfl,by simp,by simp⟩;simp only[cg];exact lv h2
   ·rw[if_neg h2]
    exact⟨rfl,rfl,by simp,by simp⟩
theorem BO (peer had:List B8) (ps:List Pt):aJ (pks peer had ps) peer had=ps.filter (fb peer)∧dI (pks peer had ps) peer had=[]:=by
 rw[ei];induction ps.filter (fb peer) with
 | nil => exact ⟨rfl, rfl⟩
 | cons p l ih =>
  obtain⟨h1,h2,_⟩:=qj p peer had;constructor
  ·rw[List.map_cons,aJ,List.flatMap_cons,jK,h1,h2]
   exact congrArg (p::·) ih.1
  ·rw[List.map_cons,dI,List.flatMap_cons,mO,h1]
   exact ih.2
def dp (n:Int):Int→List Pt→Prop
 | _, [] => True
 | s, p :: ps => s ≤ p.at_ ∧ p.at_ < n ∧ dp n (p.at_ + 1) ps
theorem qP {ps:List Pt} (h:bB n ps=true):∀ (m k:Nat),ps.length-k=m→dp n (cw ps k) (ps.drop k):=by
 intro m;induction m with
 | zero =>
  intro k hk;rw[List.drop_eq_nil_of_le (by omega)];trivial
 | succ m ih =>
  intro k hk;have hlt:k<ps.length:=by omega
  rw[List.drop_eq_getElem_cons hlt];have h1:=kK h (Ft hlt);have h2:=ih (k+1) (by omega);have e:cw ps (k+1)=ps[k].at_+1:=by rw[cw,Fu,Ft hlt];rfl
  rw[e] at h2;exact⟨h1.1,h1.2,h2⟩
theorem dN {ps:List Pt} (h:bB n ps=true):dp n 0 ps:=qP h _ 0 rfl
theorem qQ:∀ {ps:List Pt} {s t:Int},dp n s ps→t≤s→dp n t ps
 | [], _, _, _, _ => trivial
 | _ :: _, _, _, h, ht => ⟨by have := h.1; omega, h.2.1, h.2.2⟩
theorem ju {n:Int} (f:Pt→Bool):∀ {ps:List Pt} {s:Int},dp n s ps→dp n s (ps.filter f)
 | [], _, _ => trivial
 | p :: ps, s, h => by
  have ih:=ju f h.2.2;by_cases hf:f p=true
  ·rw[List.filter_cons_of_pos hf]
   exact⟨h.1,h.2.1,ih⟩
  ·rw[List.filter_cons_of_neg hf]
   exact qQ ih (by have:=h.1;omega)
theorem dq {n:Int}:∀ {ps:List Pt} {s:Int},dp n s ps→∀ p∈ps,s≤p.at_∧p.at_<n
 | [], _, _, p, hp => by simp at hp
 | p :: ps, s, h, q, hq => by
  rcases List.mem_cons.1 hq with rfl|h1
  ·exact⟨h.1,h.2.1⟩
  ·have:=dq h.2.2 q h1
   have:=h.1;omega
def rl (n:Int):Int→List Pk→Prop
 | _, [] => True
 | s, q :: qs => s ≤ q.at_ ∧ q.at_ < n ∧ (0 ≤ q.kind ∧ q.kind < 4) ∧ rl n (q.at_ + 1) qs
theorem qh (peer had:List B8) {n:Int}:∀ {ps:List Pt} {s:Int},dp n s ps→rl n s (ps.map (fun p=>du p peer had))
 | [], _, _ => trivial
 | p :: ps, s, h => by
  obtain⟨_,h2,h3,h4⟩:=qj p peer had;have ih:=qh peer had h.2.2;rw[List.map_cons];refine⟨by rw[h2];exact h.1,by rw[h2];exact h.2.1,⟨h3,h4⟩,?_⟩;rw[h2];exact ih
theorem EI {qs:List Pk} (h:rl n 0 qs):∀ k:Nat,k≤qs.length→qTo n qs k∧rl n (fO qs k) (qs.drop k):=by
 intro k;induction k with
 | zero => intro _; exact ⟨sO _ _, h⟩
 | succ k ih =>
  intro hk;obtain⟨h1,h2⟩:=ih (by omega);have hlt:k<qs.length:=by omega
  rw[List.drop_eq_getElem_cons hlt] at h2;have hg:=Ft hlt;refine⟨sN h1 hg ?_,?_⟩
  ·unfold qOk
   simp only[Bool.and_eq_true,decide_eq_true_eq];exact⟨h2.1,h2.2.1,h2.2.2.1.1,h2.2.2.1.2⟩
  ·rw[kI hg]
   exact h2.2.2.2
theorem EH (peer had:List B8) {ps:List Pt} (h:bB n ps=true):qE n (pks peer had ps)=0:=by
 rw[ei];exact zI (EI (qh peer had (ju _ (dN h))) _ (FG _)).1 (FG _)
theorem sW {ps:List Pt} (h:bB n ps=true):fP n ps=0:=by rw[fP,if_pos h]
def jr (l:List B8) (p:Pt):List B8:=l.set p.at_.toNat p.d
theorem kH {peer:List B8} {n:Int}:∀ {ps:List Pt} {s:Int} {l:List B8},0≤s→dp n s ps→(∀ i:Nat,s≤(i:Int)→l[i]?=peer[i]?)→ps.foldl jr l=(ps.filter (fb peer)).foldl jr l
 | [], _, _, _, _, _ => rfl
 | p :: ps, s, l, hs, h, hl => by
  have hp0:0≤p.at_:=by have:=h.1;omega
  have hpe:((p.at_.toNat:Nat):Int)=p.at_:=Int.toNat_of_nonneg hp0;rw[List.foldl_cons];by_cases hf:peer[p.at_.toNat]?=some p.d
  ·rw[List.filter_cons_of_neg (by simp[fb,hf])]
   have e:jr l p=l:=by
    unfold jr;apply List.ext_getElem?;intro i;by_cases hi:p.at_.toNat=i
    ·subst hi
     rw[hl _ (by rw[hpe];exact h.1)];have hlen:p.at_.toNat<l.length:=by
      have h1:=hl p.at_.toNat (by rw[hpe];exact h.1);rw[hf] at h1;exact(FE.1 h1).1
     rw[List.getElem?_set_self hlen,hf]
    ·rw[List.getElem?_set_ne hi]
   rw[e];exact kH (by omega) h.2.2 (fun i hi=>hl i (by have:=h.1;omega))
  ·rw[List.filter_cons_of_pos (by simp[fb,hf]),List.foldl_cons]
   refine kH (by omega) h.2.2 (fun i hi=>?_);unfold jr;rw[List.getElem?_set_ne (by omega)];exact hl i (by have:=h.1;omega)
theorem zE {peer:List B8} {ps:List Pt} (h:bB n ps=true):(ps.filter (fb peer)).foldl jr peer=ps.foldl jr peer :=
 (kH (Int.le_refl 0) (dN h) (fun _ _=>rfl)).symm
end Mx
end
theorem Mx.xm {q:Pk} {peer had:List B8} (h:q.kind=0):Mx.cg q peer had=some zB:=by rw[Mx.cg,if_pos h]
theorem Mx.zS {q:Pk} {peer had:List B8} (h:q.kind=3):Mx.cg q peer had=some q.d:=by rw[Mx.cg,if_neg (by omega),if_pos h]
theorem Mx.zR {q:Pk} {peer had:List B8} (h:q.kind=2):Mx.cg q peer had=Mx.atI had q.from_:=by rw[Mx.cg,if_neg (by omega),if_neg (by omega),if_pos h]
theorem Mx.xl {q:Pk} {peer had:List B8} (h0:¬q.kind=0) (h2:¬q.kind=2) (h3:¬q.kind=3):Mx.cg q peer had=Mx.atI peer q.from_:=by rw[Mx.cg,if_neg h0,if_neg h3,if_neg h2]
def rr:Option B8→Value
 | some y => .tuple #[.agg #[.int .u8 y.z0, .int .u8 y.z1, .int .u8 y.z2, .int .u8 y.z3, .int .u8 y.z4, .int .u8 y.z5, .int .u8 y.z6, .int .u8 y.z7], .bool true]
 | none => .tuple #[.agg #[.int .u8 0, .int .u8 0, .int .u8 0, .int .u8 0, .int .u8 0, .int .u8 0, .int .u8 0, .int .u8 0], .bool false]
theorem rV (q:Pk) (w:World) :
 Calls Tryz.prog 173 #[.agg #[],.agg #[.int .i64 q.at_,.int .i64 q.kind,.int .i64 q.from_,.int .u8 q.d.z0,.int .u8 q.d.z1,.int .u8 q.d.z2,.int .u8 q.d.z3,.int .u8 q.d.z4,.int .u8 q.d.z5,.int .u8 q.d.z6,.int .u8 q.d.z7]] w fun e w'=>e=.returned (rr (some zB))∧Below w.heap.size w w':=by
 go_enter Tryz.func173,Tryz.ntmps173;go_wp2_with fail;exact bodyPost_ret (v:=.tuple #[.agg #[.int .u8 0,.int .u8 0,.int .u8 0,.int .u8 0,.int .u8 0,.int .u8 0,.int .u8 0,.int .u8 0],.bool true]) (by simp[results,Tryz.results173,go_sem]) rfl ⟨rfl,(((af _ _).alloc (by simp) _).alloc (by simp;omega) _)⟩
theorem rU (q:Pk) (w:World) :
 Calls Tryz.prog 178 #[.agg #[],.agg #[.int .i64 q.at_,.int .i64 q.kind,.int .i64 q.from_,.int .u8 q.d.z0,.int .u8 q.d.z1,.int .u8 q.d.z2,.int .u8 q.d.z3,.int .u8 q.d.z4,.int .u8 q.d.z5,.int .u8 q.d.z6,.int .u8 q.d.z7]] w fun e w'=>e=.returned (rr (some q.d))∧Below w.heap.size w w':=by
 go_enter Tryz.func178,Tryz.ntmps178;go_wp2_with fail;exact bodyPost_ret (v:=.tuple #[.agg #[.int .u8 q.d.z0,.int .u8 q.d.z1,.int .u8 q.d.z2,.int .u8 q.d.z3,.int .u8 q.d.z4,.int .u8 q.d.z5,.int .u8 q.d.z6,.int .u8 q.d.z7],.bool true]) (by simp[results,Tryz.results178,go_sem]) rfl ⟨rfl,(((af _ _).alloc (by simp) _).alloc (by simp;omega) _)⟩
theorem mh (q:Pk) (a:Option Addr) (n c:Nat) (l:List B8) (w:World) (hl:BL w a n l) :
 Calls Tryz.prog 175 #[.slice a n c,.agg #[.int .i64 q.at_,.int .i64 q.kind,.int .i64 q.from_,.int .u8 q.d.z0,.int .u8 q.d.z1,.int .u8 q.d.z2,.int .u8 q.d.z3,.int .u8 q.d.z4,.int .u8 q.d.z5,.int .u8 q.d.z6,.int .u8 q.d.z7]] w fun e w'=>e=.returned (rr (Mx.atI l q.from_))∧Below w.heap.size w w':=by
 have hlen:n≤maxLen:=hl.2.2.1;unfold maxLen at hlen;have HL:=aa hl;clear hl;by_cases hf0:q.from_<0
 ·have HS:=aa (Mx.ry (l:=l) (i:=q.from_) (.inl hf0))
  have hd0:decide (q.from_<0)=true:=by simpa using hf0
  go_enter Tryz.func175,Tryz.ntmps175;go_wp2_with fail;exact bodyPost_ret (v:=.tuple #[.agg #[.int .u8 0,.int .u8 0,.int .u8 0,.int .u8 0,.int .u8 0,.int .u8 0,.int .u8 0,.int .u8 0],.bool false]) (by simp[results,Tryz.results175,go_sem]) rfl ⟨by rw[HS.o]<;>rfl,((af _ _).alloc (by simp) _)⟩
 ·have hd0:decide (q.from_<0)=false:=by simpa using hf0
  by_cases hf1:(n:Int)≤q.from_
  ·have HS:=aa (Mx.ry (l:=l) (i:=q.from_) (.inr (by rw[HL.o.1];exact hf1)))
   have hd1:decide ((n:Int)≤q.from_)=true:=by simpa using hf1
   go_enter Tryz.func175,Tryz.ntmps175;go_wp2_with fail;exact bodyPost_ret (v:=.tuple #[.agg #[.int .u8 0,.int .u8 0,.int .u8 0,.int .u8 0,.int .u8 0,.int .u8 0,.int .u8 0,.int .u8 0],.bool false]) (by simp[results,Tryz.results175,go_sem]) rfl ⟨by rw[HS.o]<;>rfl,((af _ _).alloc (by simp) _)⟩
  ·have hd1:decide ((n:Int)≤q.from_)=false:=by simpa using hf1
   obtain⟨k,hk⟩:∃ k:Nat,q.from_=k:=⟨q.from_.toNat,by omega⟩
   obtain⟨b,off,y,rfl,hb,hy,e0,e1,e2,e3,e4,e5,e6,e7⟩:=HL.o.at_ k (by omega);have HS:=aa (show Mx.atI l (k:Int)=some y from Mx.rA rfl hy);have hkn:(k:Int)<n:=by omega
   rw[hk] at hd0 hd1 ⊢;clear hk hf0 hf1;go_enter Tryz.func175,Tryz.ntmps175;go_wp2_with fail;exact bodyPost_ret (v:=.tuple #[.agg #[.int .u8 y.z0,.int .u8 y.z1,.int .u8 y.z2,.int .u8 y.z3,.int .u8 y.z4,.int .u8 y.z5,.int .u8 y.z6,.int .u8 y.z7],.bool true]) (by simp[results,Tryz.results175,go_sem]) rfl ⟨by rw[HS.o]<;>rfl,((af _ _).alloc (by simp) _)⟩
theorem mF (a:Option Addr) (m c:Nat) (qs:List Pk) (n:Nat) (w:World) (hp:QL w a m qs) (hn:n≤1000) :
 Calls Tryz.prog 156 #[.slice a m c,.int .i64 (n:Int)] w fun e w'=>e=.returned (bD (Mx.qE n qs))∧Below w.heap.size w w':=by
 have hlen:m≤maxLen:=hp.2.2.1;unfold maxLen at hlen;have HP:=aa hp;have HN:=aa hp.1;clear hp;go_enter Tryz.func156,Tryz.ntmps156;go_wp2_with fail;go_loopw [12] (fun t wr=>∃ k:Nat,k≤m∧t=.int .i64 (k:Int)∧Hid (Mx.qTo n qs k)∧Hid (Bx wr w.heap.size #[.int .i64 (Mx.fO qs k),.int .i64 (n:Int)] 256)∧Hid (Below w.heap.size w wr)) (fun t _=>m-(intOf t).toNat)
 case atStart=>exact⟨0,by omega,rfl,Mx.sO _ _,Bx.new _ _ _,af _ _⟩
 case round =>
  obtain⟨k,hk,rfl,hR,hX,hB⟩:=hrel;by_cases hlt:k<m
  ·obtain⟨b,off,p,hab,_,hpk,e0,e1,e2,e3,e4,e5,e6,e7,e8,e9,e10⟩:=(HP.o.later hB.o).at_ k hlt
   subst hab;have HPK:=aa hpk;have HNX:=aa (Mx.kI hpk);have HNN:=aa (Mx.sM hR.o);obtain⟨z,hz⟩:∃ z:Int,Hid (z=p.at_):=⟨_,rfl⟩
   obtain⟨kd,hkd⟩:∃ kd:Int,Hid (kd=p.kind):=⟨_,rfl⟩
   obtain⟨nx,hnx⟩:∃ nx:Int,Hid (nx=Mx.fO qs k):=⟨_,rfl⟩
   rw[←hz.o] at e0 HNX;rw[←hkd.o] at e1;rw[←hnx.o] at hX HNN;clear hpk;obtain⟨w1,hw1⟩:∃ w1:World,Hid (w1=wr.alloc (.cells #[.int .i64 z,.int .i64 kd,.int .i64 p.from_,.int .u8 p.d.z0,.int .u8 p.d.z1,.int .u8 p.d.z2,.int .u8 p.d.z3,.int .u8 p.d.z4,.int .u8 p.d.z5,.int .u8 p.d.z6,.int .u8 p.d.z7] 215)):=⟨_,rfl⟩
   have X1:=aa (show Bx w1 w.heap.size #[.int .i64 nx,.int .i64 (n:Int)] 256 by rw[hw1.o];exact hX.o.alloc _);have P1:=aa (show Bx w1 wr.heap.size #[.int .i64 z,.int .i64 kd,.int .i64 p.from_,.int .u8 p.d.z0,.int .u8 p.d.z1,.int .u8 p.d.z2,.int .u8 p.d.z3,.int .u8 p.d.z4,.int .u8 p.d.z5,.int .u8 p.d.z6,.int .u8 p.d.z7] 215 by rw[hw1.o];exact Bx.new _ _ _);have B1:=aa (show Below w.heap.size w w1 by rw[hw1.o];exact hB.o.alloc hB.o.size _);have hsz:=hX.o.lt;go_wp2_with fail;rw[←hw1.o];by_cases hg:nx≤z∧z<(n:Int)
   ·refine(ti w.heap.size nx n z w1 X1.o hg.1 hg.2 (by omega) HNN.o).mono ?_
    rintro e w2 ⟨rfl,rfl⟩;have X2:=aa (show Bx (w1.setCell ⟨w.heap.size,0,none⟩ (.int .i64 (z+1))) w.heap.size #[.int .i64 (Mx.fO qs (k+1)),.int .i64 (n:Int)] 256 by rw[HNX.o];exact X1.o.set 0 _);have B2:=aa (B1.o.setCell (p:=⟨w.heap.size,0,none⟩) (FG w.heap.size) (.int .i64 (z+1)));have P2:=aa (P1.o.other ⟨w.heap.size,0,none⟩ (.int .i64 (z+1)) (by show wr.heap.size≠w.heap.size;omega));obtain⟨w2,hw2⟩:∃ w2:World,Hid (w2=w1.setCell ⟨w.heap.size,0,none⟩ (.int .i64 (z+1))):=⟨_,rfl⟩
    rw[←hw2.o] at X2 B2 P2 ⊢;clear e0 e1 e2 e3 e4 e5 e6 e7 e8 e9 e10;have c1:w2.cell? ⟨wr.heap.size,1,none⟩=some (.int .i64 kd):=P2.o.cell 1;by_cases hq:0≤kd∧kd<4
    ·have HR2:=aa (Mx.sN hR.o HPK.o (by rw[←hnx.o,Mx.qOk,←hz.o,←hkd.o];simp;omega))
     have hd1:decide (kd<0)=false:=by simp;omega
     have hd2:decide (4≤kd)=false:=by simp;omega
     go_wp2_with fail;go_roundw
     case rel=>exact⟨k+1,by omega,by go_num,HR2,X2,B2⟩
     case measure=>simp[intOf];omega
    ·have HF:=aa (Mx.zJ HPK.o (by rw[←hnx.o,Mx.qOk,←hz.o,←hkd.o];simp;omega):Mx.qE n qs=1)
     by_cases h0:kd<0
     ·have hd1:decide (kd<0)=true:=by simpa using h0
      go_wp2_with fail;go_ret;exact⟨by rw[HF.o]<;>rfl,B2.o⟩
     ·have hd1:decide (kd<0)=false:=by simpa using h0
      have hd2:decide (4≤kd)=true:=by simp;omega
      go_wp2_with fail;go_ret;exact⟨by rw[HF.o]<;>rfl,B2.o⟩
   ·have HF:=aa (Mx.zJ HPK.o (by rw[←hnx.o,Mx.qOk,←hz.o,←hkd.o];simp;omega):Mx.qE n qs=1)
    refine(ve w.heap.size nx n z w1 X1.o (by omega)).mono ?_;rintro e w2 ⟨rfl,rfl⟩;clear e0 e1 e2 e3 e4 e5 e6 e7 e8 e9 e10 hg;go_wp2_with fail;go_ret;exact⟨by rw[HF.o]<;>rfl,B1.o⟩
  ·have HF:=aa (Mx.zI hR.o (by have:=HN.o;omega))
   go_wp2_with fail;go_ret;exact⟨by rw[HF.o]<;>rfl,hB.o⟩
theorem au.room {w:World} {base:Nat} {v:Value} {l:List B8} (h:au w base v l):∃ a c,v=.slice a l.length c∧l.length≤c∧BL w a l.length l:=by
 obtain⟨a,c,hv,hc,hr,_⟩:=aB h;exact⟨a,c,hv,hc,rfl,hr⟩
theorem CU (ah ap:Option Addr) (nh ch m cm:Nat) (had:List B8) (qs:List Pk) (w:World) (hh:BL w ah nh had) (hp:QL w ap m qs) (hc:nh≤ch) (hE:Mx.bT had=0) :
 Calls Tryz.prog 104 #[.slice ah nh ch,.slice ap m cm] w fun e w'=>∃ a' c',e=.returned (.tuple #[.slice a' (Mx.bK had qs).length c',.nilIface])∧Hid (au w' w.heap.size (.slice a' (Mx.bK had qs).length c') (Mx.bK had qs))∧Hid (Below w.heap.size w w'):=by
 have hlen:m≤maxLen:=hp.2.2.1;unfold maxLen at hlen;have HH:=aa hh;have HP:=aa hp;have H8:=aa (show nh≤8 by have h1:=((Mx.ja had).1 hE).1;have h2:=hh.1;omega);have HE0:=aa hE;have HV:=aa (show bD (Mx.bT had)=.nilIface by rw[hE];rfl);clear hh hp hE;go_enter Tryz.func104,Tryz.ntmps104;go_wp2_with fail;refine(kh ah nh ch had w HH.o hc).mono ?_;rintro e w1 ⟨rfl,hb1⟩;rw[HV.o];have B1:=aa hb1;clear hb1;go_wp2_with fail;refine(iu ah nh ch had w1 (HH.o.later B1.o) (by have:=H8.o;omega)).mono ?_;rintro e w2 ⟨v2,rfl,ho2,hb2⟩;have B2:=aa (B1.o.trans (hb2.mono B1.o.size));obtain⟨a2,c2,rfl,_⟩:=ho2.room;have L2:=aa (show au w2 w.heap.size _ had from World.ownsRow.mono ho2 B1.o.size);clear hb2 ho2;go_wp2_with fail;go_loopw [7,21] (fun v t wr=>∃ (k r:Nat) (a':Option Addr) (c':Nat),k≤m∧t=.int .i64 (k:Int)∧v=.slice a' r c'∧Hid (r=(Mx.bK had (qs.take k)).length)∧Hid (au wr w.heap.size (.slice a' r c') (Mx.bK had (qs.take k)))∧Hid (Below w.heap.size w wr)) (fun _ t _=>m-(intOf t).toNat)
 case atStart=>exact⟨0,had.length,a2,c2,by omega,rfl,rfl,aa rfl,L2,B2⟩
 case round =>
  obtain⟨k,r,a',c',hk,rfl,rfl,hr,hL,hB⟩:=hrel;by_cases hlt:k<m
  ·obtain⟨b,off,q,rfl,hb,hp,e0,e1,e2,e3,e4,e5,e6,e7,e8,e9,e10⟩:=(HP.o.later hB.o).at_ k hlt
   have HK:=aa hp;clear hp;have b5:=aa (af wr (.cells #[.int .i64 q.at_,.int .i64 q.kind,.int .i64 q.from_,.int .u8 q.d.z0,.int .u8 q.d.z1,.int .u8 q.d.z2,.int .u8 q.d.z3,.int .u8 q.d.z4,.int .u8 q.d.z5,.int .u8 q.d.z6,.int .u8 q.d.z7] 215));by_cases hkd:q.kind=3
   ·have HE:=aa (show Mx.bK had (qs.take (k+1))=Mx.bg (Mx.bK had (qs.take k)) q.d by rw[Mx.nJ HK.o,if_pos hkd])
    rw[hkd] at e1;obtain⟨w5,hw5⟩:∃ w5:World,Hid (w5=wr.alloc (.cells #[.int .i64 q.at_,.int .i64 3,.int .i64 q.from_,.int .u8 q.d.z0,.int .u8 q.d.z1,.int .u8 q.d.z2,.int .u8 q.d.z3,.int .u8 q.d.z4,.int .u8 q.d.z5,.int .u8 q.d.z6,.int .u8 q.d.z7] 215)):=⟨_,rfl⟩
    go_wp2_with fail;rw[←hw5.o];rw[hkd,←hw5.o] at b5;have L5:=aa (show au w5 w.heap.size _ (Mx.bK had (qs.take k)) from bm hL.o b5.o);have B5:=aa (hB.o.trans (b5.o.mono hB.o.size));clear e0 e1 e2 e3 e4 e5 e6 e7 e8 e9 e10 b5;obtain⟨ax,cx,hvx,hrc,hLx⟩:=L5.o.room;rw[←hr.o] at hvx hrc hLx;obtain⟨rfl,rfl⟩:a'=ax∧c'=cx:=by simpa using hvx
    refine(Ah a' r c' (Mx.bK had (qs.take k)) q.d w5 hLx hrc (Mx.pK HE0.o _)).mono ?_;clear hvx hrc hLx;rintro e w6 ⟨g6,c6,rfl,ho6,hb6⟩;have B6:=aa (B5.o.trans (hb6.o.mono B5.o.size));have L7:=aa (show au w6 w.heap.size _ (Mx.bg (Mx.bK had (qs.take k)) q.d) from World.ownsRow.mono ho6.o B5.o.size);clear hb6 ho6;obtain⟨T,hT⟩:∃ T:Nat,Hid (T=(Mx.bg (Mx.bK had (qs.take k)) q.d).length):=⟨_,rfl⟩
    rw[←hT.o] at L7 ⊢;go_wp2_with fail;go_roundw
    case rel=>exact⟨k+1,T,_,c6,by omega,by go_num,rfl,by rw[HE.o];exact hT,by rw[HE.o];exact L7,B6⟩
    case measure=>simp[intOf];omega
   ·have HE:=aa (show Mx.bK had (qs.take (k+1))=Mx.bK had (qs.take k) by rw[Mx.nJ HK.o,if_neg hkd])
    have hd3:(q.kind==3)=false:=by simpa using hkd
    obtain⟨w5,hw5⟩:∃ w5:World,Hid (w5=wr.alloc (.cells #[.int .i64 q.at_,.int .i64 q.kind,.int .i64 q.from_,.int .u8 q.d.z0,.int .u8 q.d.z1,.int .u8 q.d.z2,.int .u8 q.d.z3,.int .u8 q.d.z4,.int .u8 q.d.z5,.int .u8 q.d.z6,.int .u8 q.d.z7] 215)):=⟨_,rfl⟩
    go_wp2_with fail;rw[←hw5.o];rw[←hw5.o] at b5;have L5:=aa (show au w5 w.heap.size _ (Mx.bK had (qs.take k)) from bm hL.o b5.o);have B5:=aa (hB.o.trans (b5.o.mono hB.o.size));go_roundw
    case rel=>exact⟨k+1,r,a',c',by omega,by go_num,rfl,by rw[HE.o];exact hr,by rw[HE.o];exact L5,B5⟩
    case measure=>simp[intOf];omega
  ·have HT:=aa (show qs.take k=qs from FH (by have:=HP.o.1;omega))
   go_wp2_with fail;rw[HT.o] at hr hL;have hr':=hr.o;subst hr';exact bodyPost_ret (v:=.tuple #[.slice a' (Mx.bK had qs).length c',.nilIface]) (by simp[results,Tryz.results104,go_sem]) rfl ⟨a',c',rfl,hL,hB⟩
end Go.Proofs.YtbicgjafjjihdaaGreat
