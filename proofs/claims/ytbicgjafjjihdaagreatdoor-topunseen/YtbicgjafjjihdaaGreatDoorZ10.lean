/- Part. -/
import Derived.Laws.CopyOwn
import Derived.Test.YtbicgjafjjihdaaGreatDoorZ7
set_option maxHeartbeats 16000000
set_option maxRecDepth 100000
namespace Go.Proofs.YtbicgjafjjihdaaGreatDoor
open Go.RowKit
section
variable {bs:List Int} {j base g n cap:Nat}
namespace Mx
def sr (k:Nat) (d o:B8):B8 :=
 ⟨if 0<k then d.z0 else o.z0,if 1<k then d.z1 else o.z1,if 2<k then d.z2 else o.z2,if 3<k then d.z3 else o.z3,if 4<k then d.z4 else o.z4,if 5<k then d.z5 else o.z5,if 6<k then d.z6 else o.z6,if 7<k then d.z7 else o.z7⟩
theorem Dg (k:Nat) (hk:k≤8) (d o:B8):(sr k d o).cs=d.cs.take k++o.cs.drop k:=by
 match k,hk with
 | 0, _ => rfl
 | 1, _ => rfl
 | 2, _ => rfl
 | 3, _ => rfl
 | 4, _ => rfl
 | 5, _ => rfl
 | 6, _ => rfl
 | 7, _ => rfl
 | 8, _ => rfl
 | n + 9, h => omega
def jD (l:List B8) (p:Pt) (k:Nat):List B8:=match l[p.at_.toNat]? with
 | some o => l.set p.at_.toNat (sr k p.d o)
 | none => l
def eW (ls:List B8) (ps:List Pt) (bs:List Int) (j:Nat):List B8:=((ps.zip bs).take j).foldl (fun l x=>jD l x.1 (kept x.2).toNat) ls
def ny (ls:List B8) (ps:List Pt) (bs:List Int):List B8:=(ps.zip bs).foldl (fun l x=>jD l x.1 (kept x.2).toNat) ls
theorem Ag (l:List B8) (p:Pt) (k:Nat):(jD l p k).length=l.length:=by unfold jD;split<;>simp
theorem Ch {l:List B8} {p:Pt} {o:B8} (k:Nat) (h:l[p.at_.toNat]?=some o):jD l p k=l.set p.at_.toNat (sr k p.d o):=by unfold jD;rw[h]
theorem xV (ls:List B8) (xs:List (Pt × Int)):(xs.foldl (fun l x=>jD l x.1 (kept x.2).toNat) ls).length=ls.length:=by
 induction xs generalizing ls with
 | nil => rfl
 | cons x xs ih => rw [List.foldl_cons, ih, Ag]
theorem nB (ls:List B8) (ps:List Pt) (bs:List Int) (j:Nat):(eW ls ps bs j).length=ls.length:=xV _ _
theorem tv {ls:List B8} {ps:List Pt} {p:Pt} {b:Int} (hp:ps[j]?=some p) (hb:bs[j]?=some b):eW ls ps bs (j+1)=jD (eW ls ps bs j) p (kept b).toNat:=by
 have hz:(ps.zip bs)[j]?=some (p,b):=List.getElem?_zip_eq_some.2 ⟨hp,hb⟩;unfold eW;rw[aN _ _ _ hz,List.foldl_append];rfl
theorem nA {ls:List B8} {ps:List Pt} (h:ps.length≤j∨bs.length≤j):eW ls ps bs j=ny ls ps bs:=by
 unfold eW ny;rw[Gj];rw[List.length_zip];rcases h with h|h<;>omega
end Mx
theorem tB {l:List B8} {o:B8} (h:l[j]?=some o) (x:B8) :
 aT l=aT (l.take j)++(o.cs++aT (l.drop (j+1)))∧aT (l.set j x)=aT (l.take j)++(x.cs++aT (l.drop (j+1)))∧(aT (l.take j)).length=j*8:=by
 have hj:j<l.length:=(Gh.1 h).1;have e:l=l.take j++o::l.drop (j+1):=by
  have:=(Gh.1 h).2;rw[←this,List.getElem_cons_drop,List.take_append_drop]
 have e2:l.set j x=l.take j++x::l.drop (j+1):=List.set_eq_take_append_cons_drop▸(by rw[if_pos hj]);refine⟨?_,?_,?_⟩
 ·conv=>lhs;rw[e]
  simp[aT,List.flatMap_append,List.flatMap_cons]
 ·rw[e2]
  simp[aT,List.flatMap_append,List.flatMap_cons]
 ·rw[cw,Gk]
  have:min j l.length=j:=by omega
  rw[this]
theorem au.apart {w:World} {l:List B8} (h:au w base (.slice (some ⟨g,0,none⟩) n cap) l) :
 base≤g∧g<w.heap.size∧l.length=n∧∃ (cur:List Value) (Y:List Value),w.heap[g]?=some (.cells cur.toArray 33)∧cur=aT l++Y ∧
  ∀ (w':World) (cur':List Value) (l':List B8),w'.heap[g]?=some (.cells cur'.toArray 33)→cur'=aT l'++Y→l'.length=l.length→au w' base (.slice (some ⟨g,0,none⟩) n cap) l':=by
 rcases h.2 with ⟨hv,_⟩|⟨g',cap',cur,hv,hb,hh,hle,hmx,hcs,htk⟩
 ·cases hv
 ·simp only[Value.slice.injEq,Option.some.injEq,Addr.mk.injEq,and_true] at hv
  obtain⟨rfl,hn,rfl⟩:=hv;have hcur:cur.toList=aT l++cur.toList.drop (l.length*8):=by
   conv=>lhs;rw[←List.take_append_drop (l.length*8) cur.toList]
   rw[htk]
  refine⟨hb,(Array.getElem?_eq_some_iff.1 hh).1,hn.symm,cur.toList,cur.toList.drop (l.length*8),by simpa using hh,hcur,fun w' cur' l' h1 h2 h3=>?_⟩;refine⟨by rw[cw],.inr ⟨g,cap,cur'.toArray,by rw[h3,hn],hb,h1,by rw[h3];exact hle,hmx,?_,?_⟩⟩
  ·have:cur'.length=cur.toList.length:=by
    rw[h2,hcur];simp only[Ge,cw,h3,List.length_drop];omega
   simpa using this.trans (by simpa using hcs)
  ·rw[List.toList_toArray,h2,←cw l',List.take_left]
theorem au.spliced {w':World} {l:List B8} {cur Y:List Value} (hc:cur=aT l++Y)
 (re:∀ (w':World) (cur':List Value) (l':List B8),w'.heap[g]?=some (.cells cur'.toArray 33)→cur'=aT l'++Y→l'.length=l.length→au w' base (.slice (some ⟨g,0,none⟩) n cap) l')
 {k:Nat} {o d:B8} (hj:l[j]?=some o) (hk:k≤8) (h':w'.heap[g]?=some (.cells (splice cur (j*8) (d.cs.take k)).toArray 33)) :
 au w' base (.slice (some ⟨g,0,none⟩) n cap) (l.set j (Mx.sr k d o)):=by
 obtain⟨e1,e2,e3⟩:=tB hj (Mx.sr k d o);refine re w' _ _ h' ?_ (by simp);have hkl:(d.cs.take k).length=k:=by rw[Gk];have:d.cs.length=8:=rfl;omega
 rw[hc,e1,e2,Mx.Dg k hk];unfold splice;rw[hkl,List.append_assoc,List.take_append_of_le_length (by omega),Gj (by omega),←e3,List.drop_append,List.drop_of_length_le (by omega),Nat.add_sub_cancel_left,List.nil_append,List.append_assoc,List.drop_append_of_le_length (by have:o.cs.length=8:=rfl;omega)];simp[List.append_assoc]
end
section
variable {n h i h' k:Nat} {a b:Int}
namespace Mx
def sz (n:Nat):Nat:=1+2*(1+n)
def npl (n h:Nat):Nat:=1+h*(1+n)
def bpl (n h i:Nat):Nat:=1+h*(1+n)+1+i
theorem nT (hh:h≤1):npl n h<sz n:=by unfold npl sz;match h,hh with|0,_=>omega|1,_=>omega
theorem lg (hh:h≤1) (hi:i<n):bpl n h i<sz n:=by unfold bpl sz;match h,hh with|0,_=>omega|1,_=>omega
theorem Dm (n h:Nat):0<npl n h:=by unfold npl;omega
theorem CL (n h i:Nat):0<bpl n h i:=by unfold bpl;omega
theorem Dl (hh:h≤1) (hh':h'≤1) (hi:i<n):npl n h≠bpl n h' i:=by
 unfold npl bpl
 match h,hh,h',hh' with
 | 0, _, 0, _ => omega
 | 0, _, 1, _ => omega
 | 1, _, 0, _ => omega
 | 1, _, 1, _ => omega
theorem CK {i':Nat} (hh:h≤1) (hh':h'≤1) (hi:i<n) (hi':i'<n) (he:bpl n h i=bpl n h' i'):h=h'∧i=i':=by
 unfold bpl at he
 match h,hh,h',hh' with
 | 0, _, 0, _ => omega
 | 0, _, 1, _ => omega
 | 1, _, 0, _ => omega
 | 1, _, 1, _ => omega
def lK (x y z t:Int):Int:=((x*256+y)*256+z)*256+t
def xu (x:B8):Int:=lK x.z0 x.z1 x.z2 x.z3
def xw (x:B8):Int:=lK x.z4 x.z5 x.z6 x.z7
def dK (a b:Int):B8:=⟨a/16777216,a/65536%256,a/256%256,a%256,b/16777216,b/65536%256,b/256%256,b%256⟩
theorem xv (_h0:0≤a) (_h1:a≤2147483647):xu (dK a b)=a:=by unfold xu lK dK;simp only;omega
theorem xx (_h0:0≤b) (_h1:b≤2147483647):xw (dK a b)=b:=by unfold xw lK dK;simp only;omega
theorem jx (ls:List B8) (k:Int):dC ls [] k=ls.getD k.toNat zB:=rfl
theorem gF (ls:List B8) (ps:List Pt) (p:Pt) (k:Int):dC ls (ps++[p]) k=if p.at_=k then p.d else dC ls ps k:=by
 unfold dC;rw[List.reverse_append];simp only[List.reverse_singleton,List.singleton_append,List.find?_cons];by_cases h:p.at_=k
 ·simp[h]
 ·have h1:(p.at_==k)=false:=by simpa using h
  rw[h1,if_neg h]
theorem gp (ls:List B8) (ps:List Pt) (hp:∀ p∈ps,0≤p.at_∧p.at_<ls.length) (k:Nat):(aD ls ps).getD k zB=dC ls ps (k:Int):=by
 have key:∀ (qs:List Pt),(∀ p∈qs,0≤p.at_∧p.at_<ls.length)→(aD ls qs.reverse).getD k zB=dC ls qs.reverse (k:Int):=by
  intro qs;induction qs with
  | nil => intro _; rw [List.reverse_nil, jx, Int.toNat_natCast]; rfl
  | cons p qs ih =>
   intro h;have h1:=h p (List.mem_cons_self ..);rw[List.reverse_cons,gF,←ih (fun x hx=>h x (List.mem_cons_of_mem _ hx))];have hf:aD ls (qs.reverse++[p])=(aD ls qs.reverse).set p.at_.toNat p.d:=by unfold aD;rw[List.foldl_append];rfl
   rw[hf,Ga,List.getElem?_set];by_cases hk:p.at_=(k:Int)
   ·rw[if_pos hk,if_pos (by omega),if_pos (by rw[cN];omega)]
    rfl
   ·rw[if_neg hk,if_neg (by omega),Ga]
 have h:=key ps.reverse (fun p hx=>hp p (by simpa using hx))
 rwa [List.reverse_reverse] at h
theorem zQ (ls:List B8) (ps:List Pt) (k:Int) (h:∀ p∈ps,p.at_≠k):dC ls ps k=ls.getD k.toNat zB:=by
 unfold dC;rw[List.find?_eq_none.2];intro p hp;have:=h p (by simpa using hp);simpa using this
structure vj (n h:Nat) (ls:List B8) (bl:List B8) (a b:Int):Prop where
 len:ls.length=sz n
 bln:bl.length=n
 half:h≤1
 mark:(ls.getD 0 zB).z0%2=(h:Int)
 blk:∀ i,i<n→ls.getD (bpl n h i) zB=bl.getD i zB
 al:ls.getD (npl n h) zB=dK a b
theorem yu (n:Nat):vj n 0 (List.replicate (sz n) zB) (List.replicate n zB) 0 0:=by
 have hz:∀ k m,(List.replicate m zB).getD k zB=zB:=fun k m=>by
  rw[Ga,List.getElem?_replicate];split<;>rfl
 refine⟨by simp,by simp,by omega,by rw[hz];rfl,fun i _=>by rw[hz,hz],by rw[hz];rfl⟩
def cP (n h:Nat) (bl:List B8) (k:Nat):List Pt:=(List.range k).map (fun i=>⟨(bpl n h i:Int),bl.getD i zB⟩)
theorem nG (n h:Nat) (bl:List B8) (k:Nat):cP n h bl (k+1)=cP n h bl k++[⟨(bpl n h k:Int),bl.getD k zB⟩]:=by unfold cP;rw[List.range_succ,List.map_append];rfl
theorem gX (n h:Nat) (bl:List B8) (k:Nat):(cP n h bl k).length=k:=by unfold cP;simp
theorem pD {bl:List B8} {p:Pt} (hp:p∈cP n h bl k):∃ i,i<k∧p.at_=(bpl n h i:Int):=by
 unfold cP at hp;rw[List.mem_map] at hp;obtain⟨i,hi,rfl⟩:=hp;exact⟨i,by simpa using hi,rfl⟩
theorem vG {bl ls:List B8} (hh:h≤1) (hk:k≤n) (hi:i<k):dC ls (cP n h bl k) (bpl n h i:Int)=bl.getD i zB:=by
 induction k with
 | zero => omega
 | succ k ih =>
  rw[nG,gF];by_cases he:i=k
  ·subst he
   rw[if_pos rfl]
  ·have hne:¬(((bpl n h k:Nat):Int)=((bpl n h i:Nat):Int)):=fun e=>he (CK hh hh (by omega) (by omega) (show bpl n h i=bpl n h k by omega)).2
   rw[if_neg hne];exact ih (by omega) (by omega)
def fc (n h:Nat) (bl:List B8) (a b:Int):List Pt:=cP n h bl n++[⟨(npl n h:Int),dK a b⟩]
theorem Di {bl:List B8} {p:Pt} (hp:p∈fc n h bl a b):(∃ i,i<n∧p.at_=(bpl n h i:Int))∨p.at_=(npl n h:Int):=by
 unfold fc at hp;rcases List.mem_append.1 hp with h1|h1
 ·exact .inl (pD h1)
 ·simp at h1
  exact .inr (by rw[h1])
def iI (h:Nat):Pt:=⟨0,⟨(h:Int),0,0,0,0,0,0,0⟩⟩
end Mx
end
theorem jZ (n:Int) (w:World) (h0:0≤n) (h1:n≤1000) :
 Calls Tryz.prog 101 #[.int .i64 n] w fun e w'=>e=.returned (.int .i64 (1+n))∧w'=w:=by
 go_enter Tryz.func101,Tryz.ntmps101;go_wp2_with fail;go_ret;exact⟨rfl,rfl⟩
theorem uT (n:Nat) (w:World) (h0:1≤n) (h1:n≤32) :
 Calls Tryz.prog 105 #[.int .i64 (n:Int)] w fun e w'=>e=.returned (.tuple #[.int .i64 ((Mx.sz n:Nat):Int),.nilIface])∧w'=w:=by
 have d1:decide ((n:Int)<1)=false:=by simp;omega
 have d2:decide ((32:Int)<n)=false:=by simp;omega
 have HS:=aa (show((Mx.sz n:Nat):Int)=1+2*(1+(n:Int)) by unfold Mx.sz;omega);go_enter Tryz.func105,Tryz.ntmps105;go_wp2_with fail;refine(jZ n w (by omega) (by omega)).mono ?_;rintro e w1 ⟨rfl,rfl⟩;go_wp2_with fail;go_ret2
 exact⟨by rw[HS.o]<;>rfl,rfl⟩
def Sbx (w:World) (g n h:Nat) (sa:Option Addr) (sn sc:Nat) (pa:Option Addr) (pn pc:Nat) (left:Int):Prop :=
 Bx w g #[.int .i64 (n:Int),.int .i64 (h:Int),.slice sa sn sc,.slice pa pn pc,.int .i64 left] 137
theorem Sbx.cells {w:World} {g n h:Nat} {sa:Option Addr} {sn sc:Nat} {pa:Option Addr} {pn pc:Nat} {left:Int} (hx:Sbx w g n h sa sn sc pa pn pc left) :
 w.cell? ⟨g,0,none⟩=some (.int .i64 (n:Int))∧w.cell? ⟨g,1,none⟩=some (.int .i64 (h:Int))∧w.cell? ⟨g,2,none⟩=some (.slice sa sn sc)∧w.cell? ⟨g,3,none⟩=some (.slice pa pn pc)∧w.cell? ⟨g,4,none⟩=some (.int .i64 left) :=
 ⟨hx.cell 0,hx.cell 1,hx.cell 2,hx.cell 3,hx.cell 4⟩
theorem fp (g n:Nat) (w:World) (hc:w.cell? ⟨g,0,none⟩=some (.int .i64 (n:Int))) (hn:1≤n) :
 Calls Tryz.prog 57 #[.pointer (some ⟨g,0,none⟩)] w fun e w'=>e=.returned .nilIface∧w'=w:=by
 have d1:((n:Int)==0)=false:=by simp;omega
 have d2:(n==0)=false:=by simp;omega
 go_enter Tryz.func57,Tryz.ntmps57;go_wp2_with fail;go_ret;exact⟨rfl,rfl⟩
theorem mX (g n:Nat) (at_:Int) (w:World) (hc:w.cell? ⟨g,0,none⟩=some (.int .i64 (n:Int))) :
 Calls Tryz.prog 70 #[.pointer (some ⟨g,0,none⟩),.int .i64 at_] w fun e w'=>e=.returned (.bool (Mx.inside n at_))∧w'=w:=by
 by_cases h1:0≤at_
 ·have d1:decide (0≤at_)=true:=by simpa using h1
  by_cases h2:at_<n
  ·have d2:decide (at_<(n:Int))=true:=by simpa using h2
   have HI:=aa (show Mx.inside n at_=true by unfold Mx.inside;simp;omega);go_enter Tryz.func70,Tryz.ntmps70;go_wp2_with fail;go_ret;exact⟨by rw[HI.o]<;>rfl,rfl⟩
  ·have d2:decide (at_<(n:Int))=false:=by simpa using h2
   have HI:=aa (show Mx.inside n at_=false by unfold Mx.inside;simp;omega);go_enter Tryz.func70,Tryz.ntmps70;go_wp2_with fail;go_ret;exact⟨by rw[HI.o]<;>rfl,rfl⟩
 ·have d1:decide (0≤at_)=false:=by simpa using h1
  have HI:=aa (show Mx.inside n at_=false by unfold Mx.inside;simp;omega);go_enter Tryz.func70,Tryz.ntmps70;go_wp2_with fail;go_ret;exact⟨by rw[HI.o]<;>rfl,rfl⟩
theorem eR (g n h:Nat) (w:World) (hc:w.cell? ⟨g,0,none⟩=some (.int .i64 (n:Int))) (hn:n≤32) (hh:h≤1) :
 Calls Tryz.prog 59 #[.pointer (some ⟨g,0,none⟩),.int .i64 (h:Int)] w fun e w'=>e=.returned (.int .i64 ((Mx.npl n h:Nat):Int))∧w'=w:=by
 obtain⟨z,hz⟩:∃ z:Nat,Hid (z=h*(1+n)):=⟨_,rfl⟩
 have hz1:z≤33:=by rw[hz.o];match h,hh with|0,_=>omega|1,_=>omega
 have hm:IntKind.i64.wrap ((h:Int)*(1+(n:Int)))=(z:Int):=by
  have h1:(h:Int)*(1+(n:Int))=(z:Int):=by rw[hz.o];push_cast;rfl
  rw[h1,IntWalk.i64_left,IntWalk.wrap64_in _ (by omega)]
 have HN:=aa (show((Mx.npl n h:Nat):Int)=1+(z:Int) by unfold Mx.npl;rw[←hz.o];omega);go_enter Tryz.func59,Tryz.ntmps59;go_wp2_with fail;refine(jZ n w (by omega) (by omega)).mono ?_;rintro e w1 ⟨rfl,rfl⟩;go_wp2_with fail;go_ret;exact⟨by rw[HN.o]<;>rfl,rfl⟩
theorem lM (g n h i:Nat) (w:World) (hc:w.cell? ⟨g,0,none⟩=some (.int .i64 (n:Int))) (hn:n≤32) (hh:h≤1) (hi:i<n) :
 Calls Tryz.prog 71 #[.pointer (some ⟨g,0,none⟩),.int .i64 (h:Int),.int .i64 (i:Int)] w fun e w'=>e=.returned (.int .i64 ((Mx.bpl n h i:Nat):Int))∧w'=w:=by
 have hz1:Mx.npl n h≤100:=by unfold Mx.npl;match h,hh with|0,_=>omega|1,_=>omega
 have HN:=aa (show((Mx.bpl n h i:Nat):Int)=(Mx.npl n h:Nat)+1+(i:Int) by unfold Mx.bpl Mx.npl;omega);obtain⟨z,hz⟩:∃ z:Nat,Hid (z=Mx.npl n h):=⟨_,rfl⟩
 rw[←hz.o] at hz1 HN;go_enter Tryz.func71,Tryz.ntmps71;go_wp2_with fail;refine(eR g n h w hc hn hh).mono ?_;rintro e w1 ⟨rfl,rfl⟩;rw[←hz.o];go_wp2_with fail;go_ret;exact⟨by rw[HN.o]<;>rfl,rfl⟩
end Go.Proofs.YtbicgjafjjihdaaGreatDoor
