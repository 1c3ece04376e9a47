/- Part. -/
import Derived.Test.YtbicgjafjjihdaaGreatZ10
set_option maxHeartbeats 16000000
set_option maxRecDepth 100000
namespace Go.Proofs.YtbicgjafjjihdaaGreat
open Go.RowKit
section
variable {j k n num:Int}
namespace Mx
def rE (j:Int) (l:List Pt):Nat→Int
 | 0 => j
 | k + 1 => (l.getD k dP).at_ + 1
theorem qx (l:List Pt) (k:Nat):rE 0 l k=cw l k:=by cases k<;>rfl
theorem Cj {l:List Pt} (h:Rk j l) {k:Nat} {p:Pt} (hp:l[k]?=some p):rE j l k≤p.at_:=by
 induction l generalizing j k with
 | nil => simp at hp
 | cons q l ih =>
  cases k with
  | zero =>
   simp at hp;subst hp;exact h.1
  | succ k =>
   have h1:=ih h.2.2 (k:=k) (by simpa using hp);cases k with
   | zero => exact h1
   | succ k => exact h1
theorem uF {l:List Pt} (h:Rk 0 l) (hn:∀ q∈l,q.at_<n):bB n l=true:=by
 refine jt (fun k hk=>?_);have hp:l[k]?=some l[k]:=Fg hk;have h1:=Cj h hp;rw[qx] at h1;unfold eB;rw[Fh,hp];simp only[Option.getD_some,Bool.and_eq_true,decide_eq_true_eq];exact⟨h1,hn _ (List.getElem_mem hk)⟩
theorem uv {l:List Pt} (h:bB n l=true):∀ q∈l,q.at_<n:=by
 intro q hq;obtain⟨k,hk⟩:=List.mem_iff_getElem?.1 hq;exact(ky h hk).2
theorem sQ {l:List Pt} {p q:Pt} (h:q∈cU l p):q=p∨q∈l:=by
 induction l with
 | nil =>
  simp[cU] at h;exact .inl h
 | cons x l ih =>
  rw[cU] at h;split at h
  ·rcases List.mem_cons.1 h with h|h
   ·exact .inr (by rw[h];exact List.mem_cons_self ..)
   ·rcases ih h with h|h
    ·exact .inl h
    ·exact .inr (List.mem_cons_of_mem _ h)
  ·split at h
   ·rcases List.mem_cons.1 h with h|h
    ·exact .inl h
    ·exact .inr (List.mem_cons_of_mem _ h)
   ·rcases List.mem_cons.1 h with h|h
    ·exact .inl h
    ·exact .inr h
theorem AI {l:List Pt} {p:Pt} (h:bB n l=true) (hn:n≤32) (h0:0≤p.at_) (h1:p.at_<n):bB n (cU l p)=true :=
 uF (lT (nS h hn) h0 (by omega)) (fun q hq=>by
  rcases sQ hq with h2|h2
  ·rw[h2]
   exact h1
  ·exact uv h q h2)
theorem zq {l:List Pt} (h:Rk j l) (hj:j≤32):(l.length:Int)≤32-j:=by
 induction l generalizing j with
 | nil => simp; omega
 | cons p l ih =>
  have h1:=h.1;have h2:=h.2.1;have h3:=ih h.2.2 (by omega);rw[List.length_cons]
  push_cast
  omega
theorem sg {l:List Pt} (h:bB n l=true) (hn:n≤32):l.length≤32:=by
 have:=zq (nS h hn) (by omega);omega
theorem jX {b:Bu} (h1:b.be=true→b.se=[]) (h2:bB n b.op=true) (h3:eo b.se b.num n=true):fi b n=true:=by
 unfold fi;rw[h2,h3];cases hb:b.be with
 | false => rfl
 | true => rw [h1 hb]; rfl
theorem jN {b:Bu} (hn:1≤n∧n≤32) (h0:0≤b.num) (h1:b.num≤2147483647) (h2:b.se.length≤4) (h3:fi b n=true):aJ b n=0:=zk (by omega) (by omega) h3
theorem pb {b:Bu} (h:aJ b n=0):b.op.length≤32∧b.se.length≤4∧∀ e∈b.se,e.aH.length≤32:=by
 obtain⟨h1,h2,h3⟩:=bN h;obtain⟨_,h4,h5⟩:=bW h3;refine⟨sg h4 h1.2.1,h2,fun e he=>?_⟩;obtain⟨i,hi⟩:=List.mem_iff_getElem?.1 he;exact sg (iP h5 hi).1 h1.2.1
theorem Cq {b:Bu} {p:Pt} (h:aJ b n=0) (h0:0≤p.at_) (h1:p.at_<n):aJ (fE b p) n=0:=by
 obtain⟨k1,k2,k3⟩:=bN h;obtain⟨g1,g2,g3⟩:=bW k3;exact jN ⟨k1.1,k1.2.1⟩ k1.2.2.1 k1.2.2.2 k2 (jX (b:=fE b p) g1 (AI g2 k1.2.1 h0 h1) g3)
theorem zZ {es:List Ep} {ps:List Pt} (h:eo es num n=true) (hp:bB n ps=true):eo (es++[⟨num+1,ps⟩]) (num+1) n=true:=by
 have hl:=iV h;refine iS (by rw[Fl,List.length_singleton];push_cast;omega) (fun i hi=>?_);rw[Fl,List.length_singleton] at hi;unfold iu;by_cases hlt:i<es.length
 ·have he:es[i]?=some es[i]:=Fg hlt
  have h1:=iP h he;rw[Fh,Fw hlt,he,Fl,List.length_singleton];simp only[Option.getD_some,Bool.and_eq_true,decide_eq_true_eq];exact⟨h1.1,by rw[h1.2];push_cast;omega⟩
 ·obtain rfl:i=es.length:=by omega
  rw[Fh,Fv (Fq _),Nat.sub_self,Fl,List.length_singleton];simp only[Fi,Option.getD_some,Bool.and_eq_true,decide_eq_true_eq];exact⟨hp,by push_cast;omega⟩
theorem Am {es:List Ep} (h:eo es num n=true) (k:Nat):eo (es.drop k) num n=true:=by
 have hl:=iV h;refine iS (by rw[List.length_drop];omega) (fun i hi=>?_);rw[List.length_drop] at hi;have he:es[k+i]?=some (es[k+i]'(by omega)):=Fg (by omega);have h1:=iP h he;unfold iu;rw[Fh,List.getElem?_drop,he,List.length_drop];simp only[Option.getD_some,Bool.and_eq_true,decide_eq_true_eq];exact⟨h1.1,by rw[h1.2];omega⟩
theorem BI {b:Bu} (h:aJ b n=0) (hm:b.num≠2147483647):aJ (bR b) n=0:=by
 obtain⟨k1,k2,k3⟩:=bN h;obtain⟨g1,g2,g3⟩:=bW k3;have hl:=iV g3;unfold bR;cases hf:dy b with
 | true => exact jN ⟨k1.1, k1.2.1⟩ (by show 0 ≤ b.num + 1; omega) (by show b.num + 1 ≤ _; omega) (Nat.zero_le _) (jX (fun _ => rfl) rfl (iS (by show (0 : Int) ≤ b.num + 1; omega) (fun i hi => absurd hi (by simp))))
 | false =>
  have h4:b.se.length≠4:=by
   unfold dy at hf;simp at hf;exact hf.2
  exact jN ⟨k1.1,k1.2.1⟩ (by show 0≤b.num+1;omega) (by show b.num+1≤_;omega) (by show(b.se++[_]).length≤4;rw[Fl,List.length_singleton];omega) (jX (fun hb=>by cases hb) rfl (zZ g3 g2))
theorem AX {b:Bu} (h:aJ b n=0):aJ (cE b k) n=0:=by
 obtain⟨k1,k2,k3⟩:=bN h;obtain⟨g1,g2,g3⟩:=bW k3;refine jN ⟨k1.1,k1.2.1⟩ k1.2.2.1 k1.2.2.2 (Fx (lj (b:=b) (k:=k)) k2) (jX (fun hb=>?_) g2 (Am g3 _));unfold cE at hb;simp only[Bool.and_eq_true] at hb;show aI b k=[]
 unfold aI;rw[g1 hb.1,List.drop_nil]
def dK (l:List B8) (p:Pt):List B8:=l.set p.at_.toNat p.d
def lay (l:List B8) (ps:List Pt):List B8:=ps.foldl dK l
theorem mJ (ps:List Pt) (l:List B8) (i:Nat) (d:B8) (h:∀ q∈ps,q.at_.toNat≠i):lay (l.set i d) ps=(lay l ps).set i d:=by
 induction ps generalizing l with
 | nil => rfl
 | cons q ps ih =>
  have h1:=h q (List.mem_cons_self ..);have h2:=ih (l.set q.at_.toNat q.d) (fun x hx=>h x (List.mem_cons_of_mem _ hx));unfold lay at h2 ⊢;rw[List.foldl_cons,List.foldl_cons];unfold dK at h2 ⊢;rw[List.set_comm _ _ (fun e=>h1 e.symm)];exact h2
theorem qZ (hk:0≤k) {ps:List Pt} {p:Pt} (h:Rk k ps) (h0:0≤p.at_) (l:List B8):lay l (cU ps p)=dK (lay l ps) p:=by
 induction ps generalizing k l with
 | nil => rfl
 | cons q ps ih =>
  have h1:=h.1;rw[cU];split
  ·exact ih (by omega) h.2.2 _
  ·have hne:∀ x∈ps,x.at_.toNat≠p.at_.toNat:=fun x hx=>by have:=(kX h.2.2 x hx).1;omega
   split
   ·next he =>
    have h2:=mJ ps (l.set q.at_.toNat q.d) p.at_.toNat p.d hne;have h3:(l.set q.at_.toNat q.d).set p.at_.toNat p.d=dK l p:=by unfold dK;rw[he,List.set_set]
    rw[h3] at h2;exact h2
   ·have h2:=mJ (q::ps) l p.at_.toNat p.d (fun x hx=>by
     rcases List.mem_cons.1 hx with rfl|hx
     ·omega
     ·exact hne x hx)
    exact h2
theorem Af (ps acc:List Pt) (l:List B8) (ha:Rk 0 acc) (h:∀ q∈ps,0≤q.at_∧q.at_<32):lay l (ps.foldl cU acc)=lay (lay l acc) ps:=by
 induction ps generalizing acc with
 | nil => rfl
 | cons p ps ih =>
  have hp:=h p (List.mem_cons_self ..);rw[List.foldl_cons,ih (cU acc p) (lT ha hp.1 hp.2) (fun q hq=>h q (List.mem_cons_of_mem _ hq)),qZ (Int.le_refl 0) ha hp.1];rfl
theorem wh {es:List Ep} (l:List B8) (h:∀ e∈es,∀ q∈e.aH,0≤q.at_∧q.at_<32):lay l (dU es)=es.foldl (fun l e=>lay l e.aH) l:=by
 unfold dU;rw[Af _ [] l trivial (fun q hq=>by
  obtain⟨e,he,hq'⟩:=List.mem_flatMap.1 hq;exact h e he q hq')]
 show lay l (es.flatMap (·.aH))=_
 induction es generalizing l with
 | nil => rfl
 | cons e es ih =>
  rw[List.flatMap_cons,List.foldl_cons];unfold lay;rw[List.foldl_append];exact ih _ (fun x hx=>h x (List.mem_cons_of_mem _ hx))
end Mx
end
section
variable {n k:Int}
namespace Mx
structure gm (n:Int) (b:Bu) (ae:List (List B8)) (now:List B8):Prop where
 may:aJ b n=0
 len:(ae.length:Int)=b.num+1
 cur:∃ l,ae[b.num.toNat]?=some l∧now=lay l b.op
 eps:∀ (i:Nat) (e:Ep),b.se[i]?=some e→∃ x y,ae[(e.num-1).toNat]?=some x∧ae[e.num.toNat]?=some y∧y=lay x e.aH
theorem nj (hn:1≤n∧n≤32) {ae:List (List B8)} {h:Nat} (hl:ae.length=h+1) (hm:h≤2147483647) {l:List B8} (hs:ae[h]?=some l):gm n ⟨(h:Int),[],[],false⟩ ae l where
 may:=jN hn (by show(0:Int)≤(h:Int);omega) (by show(h:Int)≤_;omega) (Nat.zero_le _) (jX (fun h=>by cases h) rfl (iS (by show((0:Nat):Int)≤(h:Int);omega) (fun i hi=>absurd hi (by show ¬i<0;omega))))
 len:=by show(ae.length:Int)=(h:Int)+1;omega
 cur:=⟨l,by show ae[((h:Int)).toNat]?=_;rw[Int.toNat_natCast];exact hs,rfl⟩
 eps:=fun i e he=>by simp at he
theorem zX {b:Bu} {ae:List (List B8)} {now:List B8} {p:Pt} (h:gm n b ae now) (h0:0≤p.at_) (h1:p.at_<n):gm n (fE b p) ae (dK now p) where
 may:=Cq h.may h0 h1
 len:=h.len
 cur:=by
  obtain⟨l,hl,hnow⟩:=h.cur;obtain⟨k1,_,k3⟩:=bN h.may;refine⟨l,hl,?_⟩;rw[hnow];exact(qZ (Int.le_refl 0) (nS (bW k3).2.1 k1.2.1) h0 l).symm
 eps:=h.eps
theorem xq {b:Bu} {ae:List (List B8)} {now:List B8} (h:gm n b ae now) (hm:b.num≠2147483647):gm n (bR b) (ae++[now]) now where
 may:=BI h.may hm
 len:=by
  have:=h.len;rw[Fl,List.length_singleton];show _=b.num+1+1
  push_cast
  omega
 cur:=by
  obtain⟨k1,_,_⟩:=bN h.may;have hl:=h.len;refine⟨now,?_,rfl⟩;show(ae++[now])[(b.num+1).toNat]?=some now
  rw[show(b.num+1).toNat=ae.length by omega,Fv (Fq _),Nat.sub_self];rfl
 eps:=by
  obtain⟨k1,_,k3⟩:=bN h.may;have hfol:=(bW k3).2.2;have hl:=h.len;have hfl:=iV hfol;intro i e he;have he':(if dy b then [] else b.se++[⟨b.num+1,b.op⟩]:List Ep)[i]?=some e:=he;cases hf:dy b with
  | true => rw [hf] at he'; simp at he'
  | false =>
   rw[hf] at he';change (b.se++[(⟨b.num+1,b.op⟩:Ep)])[i]?=some e at he';by_cases hi:i<b.se.length
   ·rw[Fw hi] at he'
    obtain⟨x,y,hx,hy,hxy⟩:=h.eps i e he';have hxl:=(Fp.1 hx).1;have hyl:=(Fp.1 hy).1;exact⟨x,y,by rw[Fw hxl];exact hx,by rw[Fw hyl];exact hy,hxy⟩
   ·have hlen:=(Fp.1 he').1
    rw[Fl,List.length_singleton] at hlen;obtain rfl:i=b.se.length:=by omega
    rw[Fv (Fq _),Nat.sub_self] at he';simp at he';subst he';obtain⟨l,hl2,hnow⟩:=h.cur;have hl3:=(Fp.1 hl2).1;refine⟨l,now,?_,?_,hnow⟩
    ·show(ae++[now])[(b.num+1-1).toNat]?=some l
     rw[show(b.num+1-1).toNat=b.num.toNat by omega,Fw hl3];exact hl2
    ·show(ae++[now])[(b.num+1).toNat]?=some now
     rw[show(b.num+1).toNat=ae.length by omega,Fv (Fq _),Nat.sub_self];rfl
theorem nU {b:Bu} {ae:List (List B8)} {now x:List B8} (h:gm n b ae now) (hk0:0≤k) (hkn:k≤b.num) (hs:cq b n k=true) (hx:ae[k.toNat]?=some x):ae[b.num.toNat]?=some (lay x (bG b n k).aH):=by
 obtain⟨k1,_,k3⟩:=bN h.may;have hfol:=(bW k3).2.2;have hri:=gj (k:=k) k3 k1.2.1;have hE:(bG b n k).aH=dU (aI b k):=by unfold bG;rw[hs];rfl
 have hlen:b.num-k≤(aI b k).length:=by
  unfold cq at hs;simp only[Bool.and_eq_true,decide_eq_true_eq] at hs;exact hs.2
 rw[hE,wh x hri];have hkl:(aI b k).length=(b.num-k).toNat:=by
  unfold aI at hlen ⊢;rw[List.length_drop] at hlen ⊢;unfold many at hlen ⊢;omega
 have key:∀ m,m≤(aI b k).length→ae[k.toNat+m]?=some (((aI b k).take m).foldl (fun l e=>lay l e.aH) x):=by
  intro m;induction m with
  | zero =>
   intro _;rw[Nat.add_zero];exact hx
  | succ m ih =>
   intro hm;have h1:=ih (by omega);have he:(aI b k)[m]?=some ((aI b k)[m]'(by omega)):=Fg (by omega);have he2:=he;unfold aI at he2;rw[List.getElem?_drop] at he2;have hnum:=(iP hfol he2).2;obtain⟨y,z,hy,hz,hyz⟩:=h.eps _ _ he2;have hmany:(aI b k).length=many b k:=by
    unfold aI;rw[List.length_drop];unfold many;omega
   have hsl:many b k≤b.se.length:=by unfold many;omega
   have e1:((aI b k)[m]'(by omega)).num=k+m+1:=by
    have h5:((aI b k)[m]'(by omega)).num=b.num-b.se.length+1+((b.se.length-many b k+m:Nat):Int):=hnum;rw[h5];omega
   rw[aL _ _ _ he,List.foldl_append];have hz':ae[((aI b k)[m]'(by omega)).num.toNat]?=some z:=hz;have hy':ae[(((aI b k)[m]'(by omega)).num-1).toNat]?=some y:=hy;rw[e1] at hz' hy';rw[show(k+m+1-1:Int).toNat=k.toNat+m by omega] at hy';rw[show(k+m+1:Int).toNat=k.toNat+(m+1) by omega] at hz';rw[h1] at hy';have hyx:=Fo hy';rw[hz',hyz,←hyx];rfl
 have:=key (aI b k).length (Fq _);rw[Ft (Fq _),hkl] at this;rw[←this];congr 1
 omega
theorem zr {b:Bu} {ae:List (List B8)} {now:List B8} (h:gm n b ae now):gm n (cE b k) ae now where
 may:=AX h.may
 len:=h.len
 cur:=h.cur
 eps:=fun i e he=>by
  have he':(aI b k)[i]?=some e:=he;unfold aI at he';rw[List.getElem?_drop] at he';exact h.eps _ e he'
theorem tP {b:Bu} (hb:aJ b n=0) (hk0:0≤k) (hkn:k≤b.num):cq b n k=true↔b.num-(b.se.length:Int)≤k:=by
 have hfl:=iV (bW (bN hb).2.2).2.2;have hnm:dD b n k=0:=m9 hb (by omega);unfold cq;rw[hnm];simp only[decide_true,Bool.true_and,decide_eq_true_eq];unfold aI many;rw[List.length_drop];omega
end Mx
end
end Go.Proofs.YtbicgjafjjihdaaGreat
