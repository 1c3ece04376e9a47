/- Part. -/
import Derived.Below
set_option maxHeartbeats 16000000
set_option maxRecDepth 100000
namespace Go.Proofs.YtbicgjafjjihdaaGreat
section
theorem _root_.Go.RowKit.Hid.o {p:Prop} (h:Go.RowKit.Hid p):p:=h
theorem Ft {α:Type _} {l:List α} {i:Nat} (h:i<l.length):l[i]?=some l[i]:=List.getElem?_eq_getElem h
theorem Fu {α:Type _} {l:List α} {i:Nat} {a:α}:l.getD i a=l[i]?.getD a:=List.getD_eq_getElem?_getD
theorem Fv {α:Type _} {a:α} {l:List α}:(a::l)[0]?=some a:=List.getElem?_cons_zero
theorem Fw {α:Type _} {a:α} {i:Nat} {l:List α}:(a::l)[i+1]?=l[i]?:=List.getElem?_cons_succ
theorem Fx {α:Type _} {xs:List α} {i:Nat}:xs.toArray[i]?=xs[i]?:=List.getElem?_toArray
theorem Fy {α:Type _} {as bs:List α}:(as++bs).length=as.length+bs.length:=List.length_append
theorem Fz {n m k:Nat} (h:n<m) (g:m≤k):n<k:=Nat.lt_of_lt_of_le h g
theorem FC {α:Type _} {a b:α} (h:some a=some b):a=b:=Option.some.inj h
theorem FE {α:Type _} {i:Nat} {a:α} {l:List α}:l[i]?=some a↔∃ h,l[i]=a:=List.getElem?_eq_some_iff
theorem FG (n:Nat):n≤n:=Nat.le_refl n
theorem FH {α:Type _} {i:Nat} {l:List α} (h:l.length≤i):l.take i=l:=List.take_of_length_le h
theorem FI {α:Type _} {i:Nat} {l:List α}:(l.take i).length=min i l.length:=List.length_take
theorem FJ {α:Type _} {a b:List α} {i:Nat} (h:a.length≤i):(a++b)[i]?=b[i-a.length]?:=List.getElem?_append_right h
theorem FK {α:Type _} {a b:List α} {i:Nat} (h:i<a.length):(a++b)[i]?=a[i]?:=List.getElem?_append_left h
theorem FM {n m k:Nat} (h:n≤m) (g:m≤k):n≤k:=Nat.le_trans h g
theorem FN {α:Type _} {l:List α} {i:Nat} {a:α} (e:l[i]?=some a):a∈l:=List.mem_of_getElem? e
end
section

namespace Mx
def ik:Nat:=3988292384
def lP (x b:Nat):Nat:=if (x+b)%2=1 then (x/2) ^^^ ik else x/2
def dj (x c:Nat):Nat→Nat
 | 0 => x
 | k + 1 => lP (dj x c k) (c / 2 ^ k)
def fG (y:Nat):Nat:=if y%2=1 then (y/2) ^^^ ik else y/2
def dO (y:Nat):Nat→Nat
 | 0 => y
 | k + 1 => fG (dO y k)
def reg (x:Nat) (l:List Int):Nat:=l.foldl (fun x c=>dj x c.toNat 8) x
def crc (l:List Int):Nat:=4294967295-reg 4294967295 l
theorem xor_div_two (a b:Nat):(a ^^^ b)/2=(a/2) ^^^ (b/2):=by
 apply Nat.eq_of_testBit_eq;intro i;simp[Nat.testBit_div_two,Nat.testBit_xor]
theorem um (a b:Nat):(a ^^^ b)%2=(a+b)%2:=by
 have h:=Nat.testBit_xor a b 0;simp only[Nat.testBit_zero] at h;rcases Nat.mod_two_eq_zero_or_one a with ha|ha<;>rcases Nat.mod_two_eq_zero_or_one b with hb|hb <;>
  rcases Nat.mod_two_eq_zero_or_one (a ^^^ b) with hc|hc<;>simp[ha,hb,hc] at h<;>omega
theorem Cj (a b c:Nat):(a ^^^ b) ^^^ c=(a ^^^ c) ^^^ b:=by
 rw[Nat.xor_assoc,Nat.xor_comm b c,←Nat.xor_assoc]
theorem vT (x d:Nat):fG (x ^^^ d)=lP x d ^^^ (d/2):=by
 unfold fG lP;rw[um,xor_div_two];by_cases h:(x+d)%2=1
 ·rw[if_pos h,if_pos h,Cj]
 ·rw[if_neg h,if_neg h]
theorem tH (x c:Nat) (k:Nat):dO (x ^^^ c) k=dj x c k ^^^ (c/2 ^ k):=by
 induction k with
 | zero => simp [dO, dj]
 | succ k ih =>
  rw[dO,dj,ih,vT,Nat.div_div_eq_div_mul,Nat.pow_succ]
theorem eW (x c:Nat) (h:c<256):dO (x ^^^ c) 8=dj x c 8:=by
 rw[tH,Nat.div_eq_of_lt (by simpa using h),Nat.xor_zero]
theorem lZ:ik<4294967296:=by decide
theorem gZ (a b:Nat) (ha:a<4294967296) (hb:b<4294967296):a ^^^ b<4294967296 :=
 Nat.xor_lt_two_pow (n:=32) ha hb
theorem zO (x b:Nat) (h:x<4294967296):lP x b<4294967296:=by
 unfold lP;split
 ·exact gZ _ _ (by omega) lZ
 ·omega
theorem yy (x:Nat) (h:x<4294967296):fG x<4294967296:=by
 unfold fG;split
 ·exact gZ _ _ (by omega) lZ
 ·omega
theorem gF (x c k:Nat) (h:x<4294967296):dj x c k<4294967296:=by
 induction k with
 | zero => exact h
 | succ k ih => exact zO _ _ ih
theorem nK (x k:Nat) (h:x<4294967296):dO x k<4294967296:=by
 induction k with
 | zero => exact h
 | succ k ih => exact yy _ ih
theorem sV (x:Nat) (l:List Int) (h:x<4294967296):reg x l<4294967296:=by
 unfold reg;induction l generalizing x with
 | nil => exact h
 | cons c l ih => exact ih _ (gF _ _ _ h)
theorem BP (x:Nat) (l:List Int) (c:Int):reg x (l++[c])=dj (reg x l) c.toNat 8:=by
 simp[reg,List.foldl_append]
theorem n5 (x:Nat) (l m:List Int):reg x (l++m)=reg (reg x l) m:=by
 simp[reg,List.foldl_append]
theorem rJ (l:List Int):crc l<4294967296:=by unfold crc;omega
end Mx
end
section

namespace Mx.Mir
inductive Lt (M:Type) where
 | dF
 | opn (s : Nat)
 | msg (s k : Nat) (f : M)
 | hav (s h : Nat)
 | gone (s : Nat)
 | ack (s k : Nat)
structure Rc (M H:Type) where
 bu:Nat
 ms:List M
 prev:Nat
 to_:Nat
 j:Nat
 ij:H
 eA:H
structure Fs (M H:Type) where
 ao:Nat
 s:Nat
 safe:Nat
 known:Bool
 goal:Nat
 base:Nat
 queue:List M
 had:H
structure Ot (M H:Type) where
 back:Nat
 sb:Nat
 aN:Bool
 want:Nat
 got:List M
 had:H
variable {M H:Type}
structure Core (Good:Nat→H→List M→Nat→H→Prop) (z:H) (p:Fs M H) (o:Ot M H) (r:Rc M H):Prop where
 ses:o.sb≤p.s
 back:o.back≤p.ao
 safe:p.safe≤o.back
 to_:r.to_≤p.ao
 four:r.ms.length≤4
 jl:r.j≤r.ms.length
 before:r.j<r.ms.length→o.back=r.prev
 behind:r.j=r.ms.length→o.back=r.to_
 want:o.aN=false→o.want=r.bu+r.j
 got:o.aN=false→o.got=if r.j=r.ms.length then [] else r.ms.take r.j
 had:o.aN=false→o.had=if r.j=r.ms.length then r.eA else r.ij
 vM:r.ms≠[]→Good r.prev r.ij r.ms r.to_ r.eA
 later:r.ms≠[]→r.prev<r.to_
 rX:p.known=true→o.sb=p.s
 kt:p.known=true→r.bu≤p.base∧p.base≤r.bu+r.j
 jY:p.known=true→p.queue=r.ms.drop (p.base-r.bu)
 vW:p.known=true→p.goal=r.to_
 Ev:p.known=true→p.had=r.eA
 lL:p.known=false→p.queue=[]∧p.base=0∧p.had=z
 EA:p.known=false→o.sb=p.s→r.ms=[]∧r.bu=0∧r.eA=z
def LOK (p:Fs M H) (o:Ot M H) (r:Rc M H):Lt M→Prop
 | .dF => True
 | .opn s => s ≤ p.s
 | .msg s k f => s ≤ o.sb ∧ (s = o.sb → k < r.bu + r.ms.length ∧ (r.bu ≤ k → r.ms[k - r.bu]? = some f))
 | .hav s h => s ≤ o.sb ∧ (s = p.s → p.known = false → h = o.back)
 | .gone s => s ≤ o.sb ∧ (s = o.sb → o.aN = true)
 | .ack s k => s ≤ o.sb ∧ (s = o.sb → k ≤ r.bu + r.j)
variable {Good:Nat→H→List M→Nat→H→Prop} {z:H} {p:Fs M H} {o:Ot M H} {r:Rc M H}
theorem vA:Core Good z (⟨0,1,0,false,0,0,[],z⟩:Fs M H) ⟨0,0,true,2147483647,[],z⟩ ⟨0,[],0,0,0,z,z⟩:=by
 constructor<;>simp
theorem Core.mono {G':Nat→H→List M→Nat→H→Prop} (hi:∀ a b c d e,Good a b c d e→G' a b c d e) (h:Core Good z p o r):Core G' z p o r:=by
 obtain⟨h1,h2,h3,h4,h5,h6,h7,h8,h9,h10,h11,h12,h13,h14,h15,h16,h17,h18,h19,h20⟩:=h;exact⟨h1,h2,h3,h4,h5,h6,h7,h8,h9,h10,h11,fun hh=>hi _ _ _ _ _ (h12 hh),h13,h14,h15,h16,h17,h18,h19,h20⟩
theorem rI (h:Core Good z p o r):Core Good z {p with ao:=p.ao+1} o r:=by
 obtain⟨h1,h2,h3,h4,h5,h6,h7,h8,h9,h10,h11,h12,h13,h14,h15,h16,h17,h18,h19,h20⟩:=h;exact⟨h1,Nat.le_succ_of_le h2,h3,Nat.le_succ_of_le h4,h5,h6,h7,h8,h9,h10,h11,h12,h13,h14,h15,h16,h17,h18,h19,h20⟩
theorem tJ {l:Lt M} (h:LOK p o r l):LOK {p with ao:=p.ao+1} o r l:=by
 cases l<;>exact h
theorem lq (h:Core Good z p o r) (safe goal:Nat) (hs:safe≤p.safe):Core Good z ⟨p.ao,p.s+1,safe,false,goal,0,[],z⟩ o r:=by
 obtain⟨h1,h2,h3,h4,h5,h6,h7,h8,h9,h10,h11,h12,h13,h14,h15,h16,h17,h18,h19,h20⟩:=h;refine⟨Nat.le_succ_of_le h1,h2,FM hs h3,h4,h5,h6,h7,h8,h9,h10,h11,h12,h13,?_,?_,?_,?_,?_,?_,?_⟩<;>simp;intro h;omega
theorem sk (hc:Core Good z p o r) (safe goal:Nat) {l:Lt M} (h:LOK p o r l):LOK ⟨p.ao,p.s+1,safe,false,goal,0,[],z⟩ o r l:=by
 have h1:=hc.ses;cases l with
 | dF => trivial
 | opn s => exact Nat.le_succ_of_le h
 | msg s k f => exact h
 | hav s x =>
  refine⟨h.1,fun e _=>?_⟩;have h2:=h.1;simp only at e;omega
 | gone s => exact h
 | ack s k => exact h
theorem vB (h:Core Good z p o r) (w:Nat) (g:List M) (d:H):Core Good z p ⟨o.back,o.sb,true,w,g,d⟩ r:=by
 obtain⟨h1,h2,h3,h4,h5,h6,h7,h8,h9,h10,h11,h12,h13,h14,h15,h16,h17,h18,h19,h20⟩:=h;refine⟨h1,h2,h3,h4,h5,h6,h7,h8,?_,?_,?_,h12,h13,h14,h15,h16,h17,h18,h19,h20⟩<;>simp
theorem yD (w:Nat) (g:List M) (d:H) {l:Lt M} (h:LOK p o r l):LOK p ⟨o.back,o.sb,true,w,g,d⟩ r l:=by
 cases l with
 | gone s => exact ⟨h.1, fun _ => rfl⟩
 | _ => exact h
theorem xS (h:Core Good z p o r) {s:Nat} (hs:s≤p.s) (hl:o.sb<s):Core Good z p ⟨o.back,s,false,0,[],z⟩ ⟨0,[],o.back,o.back,0,z,z⟩:=by
 have hk:p.known=false:=by
  cases e:p.known with
  | false => rfl
  | true => have := h.rX e; omega
 obtain⟨h1,h2,h3,h4,h5,h6,h7,h8,h9,h10,h11,h12,h13,h14,h15,h16,h17,h18,h19,h20⟩:=h;constructor<;>simp_all
theorem A5 {s:Nat} (hl:o.sb<s) {l:Lt M} (h:LOK p o r l):LOK p (⟨o.back,s,false,0,[],z⟩:Ot M H) ⟨0,[],o.back,o.back,0,z,z⟩ l:=by
 cases l with
 | dF => trivial
 | opn s => exact h
 | msg s' k f => have h1 := h.1; exact ⟨by simp only; omega, fun e => by simp only at e; omega⟩
 | hav s' x => have h1 := h.1; exact ⟨by simp only; omega, h.2⟩
 | gone s' => have h1 := h.1; exact ⟨by simp only; omega, fun e => by simp only at e; omega⟩
 | ack s' k => have h1 := h.1; exact ⟨by simp only; omega, fun e => by simp only at e; omega⟩
theorem uM:LOK p o r (.hav o.sb o.back):=⟨FG _,fun _ _=>rfl⟩
theorem sj (h:o.aN=true):LOK p o r (.gone o.sb):=⟨FG _,fun _=>h⟩
theorem oL (hc:Core Good z p o r) (h:o.aN=false):LOK p o r (.ack o.sb o.want):=⟨FG _,fun _=>Nat.le_of_eq (hc.want h)⟩
theorem iG (h:Core Good z p o r) (hk:p.known=true) (hq:p.queue=[]):r.j=r.ms.length∧p.base=r.bu+r.j∧o.back=p.goal:=by
 have h1:=h.kt hk;have h2:=h.jY hk;have h3:=h.jl;rw[hq] at h2;have h4:r.ms.length≤p.base-r.bu:=List.drop_eq_nil_iff.mp h2.symm;have h5:r.j=r.ms.length:=by omega
 exact⟨h5,by omega,by rw[h.behind h5,h.vW hk]⟩
theorem vC (h:Core Good z p o r) (hk:p.known=true) (hq:p.queue=[]):Core Good z {p with safe:=p.goal} o r:=by
 have hb:=(iG h hk hq).2.2;obtain⟨h1,h2,h3,h4,h5,h6,h7,h8,h9,h10,h11,h12,h13,h14,h15,h16,h17,h18,h19,h20⟩:=h;exact⟨h1,h2,Nat.le_of_eq hb.symm,h4,h5,h6,h7,h8,h9,h10,h11,h12,h13,h14,h15,h16,h17,h18,h19,h20⟩
theorem yF (x:Nat) {l:Lt M} (h:LOK p o r l):LOK {p with safe:=x} o r l:=by
 cases l<;>exact h
theorem Ay (h:Core Good z p o r) {x:Nat} (hk:p.known=false) (hl:LOK p o r (.hav p.s x)):Core Good z {p with known:=true,goal:=x} o r∧o.sb=p.s∧x=o.back:=by
 have e1:o.sb=p.s:=Nat.le_antisymm h.ses hl.1;have e2:x=o.back:=hl.2 rfl hk;obtain⟨e3,e4,e5⟩:=h.EA hk e1;obtain⟨e6,e7,e8⟩:=h.lL hk;have e9:r.j=0:=by have:=h.jl;rw[e3] at this;simpa using this
 have e10:o.back=r.to_:=h.behind (by rw[e9,e3];rfl);obtain⟨h1,h2,h3,h4,h5,h6,h7,h8,h9,h10,h11,h12,h13,h14,h15,h16,h17,h18,h19,h20⟩:=h;refine⟨⟨h1,h2,h3,h4,h5,h6,h7,h8,h9,h10,h11,h12,h13,fun _=>e1,fun _=>?_,fun _=>?_,fun _=>?_,fun _=>?_,?_,?_⟩,e1,e2⟩
 ·simp only[e7,e4,e9];omega
 ·simp only[e6,e3,List.drop_nil]
 ·simp only[e2,e10]
 ·simp only[e8,e5]
 ·intro hh;simp at hh
 ·intro hh;simp at hh
theorem yE (x:Nat) {l:Lt M} (h:LOK p o r l):LOK {p with known:=true,goal:=x} o r l:=by
 cases l with
 | hav s y => exact ⟨h.1, fun _ hh => by simp at hh⟩
 | _ => exact h
theorem Ax (h:Core Good z p o r) {g:Nat} (hk:p.known=true) (hg:p.base+g≤r.bu+r.j):Core Good z {p with base:=p.base+g,queue:=p.queue.drop g} o r:=by
 have e1:=h.kt hk;have e2:=h.jY hk;obtain⟨h1,h2,h3,h4,h5,h6,h7,h8,h9,h10,h11,h12,h13,h14,h15,h16,h17,h18,h19,h20⟩:=h;refine⟨h1,h2,h3,h4,h5,h6,h7,h8,h9,h10,h11,h12,h13,h14,fun _=>?_,fun _=>?_,h17,h18,fun hh=>?_,h20⟩
 ·simp only;omega
 ·simp only[e2,List.drop_drop]
  congr 1
  omega
 ·simp only[hk] at hh;simp at hh
theorem yC (b:Nat) (q:List M) {l:Lt M} (h:LOK p o r l):LOK {p with base:=b,queue:=q} o r l:=by
 cases l<;>exact h
theorem vD (h:Core Good z p o r) (hk:p.known=true) (hq:p.queue=[]) (hg:p.goal<p.ao) {ms:List M} (hm:ms≠[]) (h4:ms.length≤4) {d:H} (hgood:Good p.goal p.had ms p.ao d) :
 Core Good z {p with goal:=p.ao,queue:=ms,had:=d} o ⟨p.base,ms,p.goal,p.ao,0,p.had,d⟩:=by
 obtain⟨e1,e2,e3⟩:=iG h hk hq;have e4:0<ms.length:=List.length_pos_iff.mpr hm;have ek:=h.Ev hk;obtain⟨h1,h2,h3,h4',h5,h6,h7,h8,h9,h10,h11,h12,h13,h14,h15,h16,h17,h18,h19,h20⟩:=h;refine⟨h1,h2,h3,FG _,h4,Nat.zero_le _,fun _=>e3,fun hh=>?_,fun hf=>?_,fun hf=>?_,fun hf=>?_,fun _=>hgood,fun _=>hg,h14,fun _=>?_,fun _=>?_,fun _=>rfl,fun _=>rfl,fun hh=>?_,fun hh=>?_⟩
 ·simp only at hh;omega
 ·simp only;rw[h9 hf,e2];omega
 ·rw[h10 hf,if_pos e1]
  simp only[List.take_zero];split<;>rfl
 ·rw[h11 hf,if_pos e1,ek,if_neg (by simp only;omega)]
 ·simp only;omega
 ·simp only[Nat.sub_self,List.drop_zero]
 ·simp only[hk] at hh;simp at hh
 ·simp only[hk] at hh;simp at hh
theorem yG (h:Core Good z p o r) (hk:p.known=true) (hq:p.queue=[]) (ms:List M) (d:H) {l:Lt M} (hl:LOK p o r l):LOK {p with goal:=p.ao,queue:=ms,had:=d} o ⟨p.base,ms,p.goal,p.ao,0,p.had,d⟩ l:=by
 obtain⟨e1,e2,e3⟩:=iG h hk hq;cases l with
 | msg s k f =>
  refine⟨hl.1,fun e=>?_⟩;have h1:=(hl.2 e).1;simp only;exact⟨by omega,fun hh=>by omega⟩
 | ack s k =>
  refine⟨hl.1,fun e=>?_⟩;have h1:=hl.2 e;simp only;omega
 | _ => exact hl
theorem oN:LOK p o r (.opn p.s):=FG _
theorem oM (h:Core Good z p o r) (hk:p.known=true) {i:Nat} {f:M} (hi:p.queue[i]?=some f):LOK p o r (.msg p.s (p.base+i) f):=by
 have h1:=h.kt hk;have h2:=h.jY hk;have h3:=h.rX hk;rw[h2,List.getElem?_drop] at hi;have h4:p.base-r.bu+i<r.ms.length:=(FE.mp hi).1;refine⟨Nat.le_of_eq h3.symm,fun _=>⟨by omega,fun _=>?_⟩⟩;rw[show p.base+i-r.bu=p.base-r.bu+i by omega];exact hi
theorem wanted (h:Core Good z p o r) (hf:o.aN=false) {f:M} (hl:LOK p o r (.msg o.sb o.want f)):r.ms[r.j]?=some f∧r.j<r.ms.length:=by
 have h1:=h.want hf;obtain⟨h2,h3⟩:=hl.2 rfl;have h4:=h3 (by omega);rw[h1] at h2 h4;exact⟨by rw[←h4];congr 1;omega,by omega⟩
theorem xU (h:Core Good z p o r) (hf:o.aN=false) {f:M} (hm:r.ms[r.j]?=some f) (hj:r.j+1<r.ms.length) :
 Core Good z p {o with want:=o.want+1,got:=o.got++[f]} {r with j:=r.j+1}:=by
 obtain⟨h1,h2,h3,h4,h5,h6,h7,h8,h9,h10,h11,h12,h13,h14,h15,h16,h17,h18,h19,h20⟩:=h;refine⟨h1,h2,h3,h4,h5,by simp only;omega,fun _=>h7 (by omega),fun hh=>?_,fun _=>?_,fun _=>?_,fun _=>?_,h12,h13,h14,fun hk=>?_,h16,h17,h18,h19,h20⟩
 ·simp only at hh;omega
 ·simp only;rw[h9 hf];omega
 ·simp only
  rw[h10 hf,if_neg (by omega),if_neg (by omega),List.take_add_one,hm];rfl
 ·simp only
  rw[h11 hf,if_neg (by omega),if_neg (by omega)]
 ·have:=h15 hk
  simp only;omega
theorem xT (h:Core Good z p o r) (hf:o.aN=false) (hj:r.j+1=r.ms.length) :
 Core Good z p {o with back:=r.to_,want:=o.want+1,got:=[],had:=r.eA} {r with j:=r.j+1}:=by
 have hne:r.ms≠[]:=by intro e;rw[e] at hj;simp at hj
 obtain⟨h1,h2,h3,h4,h5,h6,h7,h8,h9,h10,h11,h12,h13,h14,h15,h16,h17,h18,h19,h20⟩:=h;have e1:=h7 (by omega);have e2:=h13 hne;refine⟨h1,h4,by simp only;omega,h4,h5,by simp only;omega,fun hh=>?_,fun _=>rfl,fun _=>?_,fun _=>?_,fun _=>?_,h12,h13,h14,fun hk=>?_,h16,h17,h18,h19,h20⟩
 ·simp only at hh;omega
 ·simp only;rw[h9 hf];omega
 ·simp only;rw[if_pos hj]
 ·simp only;rw[if_pos hj]
 ·have:=h15 hk
  simp only;omega
theorem A8 {l:Lt M} (hl:LOK p o r l) (w:Nat) (g:List M):LOK p {o with want:=w,got:=g} {r with j:=r.j+1} l:=by
 cases l with
 | ack s k => exact ⟨hl.1, fun e => Nat.le_succ_of_le (hl.2 e)⟩
 | _ => exact hl
theorem A7 (h:Core Good z p o r) (hj:r.j+1=r.ms.length) {l:Lt M} (hl:LOK p o r l) (w:Nat) (g:List M) (d:H):LOK p {o with back:=r.to_,want:=w,got:=g,had:=d} {r with j:=r.j+1} l:=by
 cases l with
 | ack s k => exact ⟨hl.1, fun e => Nat.le_succ_of_le (hl.2 e)⟩
 | hav s x =>
  refine⟨hl.1,fun e hk=>?_⟩;have e1:o.sb=p.s:=Nat.le_antisymm h.ses (by rw[←e];exact hl.1);have e2:=(h.EA hk e1).1;rw[e2] at hj;simp at hj
 | _ => exact hl
end Mx.Mir
end
section

namespace Mx.Mir
variable {M H:Type}
def aW (p:Fs M H):Fs M H:=if p.known=true∧p.queue.length=0 then {p with safe:=p.goal} else p
def eI (b x n:Nat):Nat:=if b≤x∧x≤b+min n 4 then x-b else 0
def jW (z:H) (o:Ot M H) (s:Nat):Ot M H:=⟨o.back,s,false,0,[],z⟩
def none_ (z:H) (o:Ot M H):Rc M H:=⟨0,[],o.back,o.back,0,z,z⟩
def opened (z:H) (p:Fs M H):Fs M H:=⟨p.ao,p.s+1,p.safe,false,p.goal,0,[],z⟩
def ev (z:H) (p:Fs M H) (o:Ot M H) (r:Rc M H):Lt M→Fs M H × Ot M H × Rc M H × Option (Lt M)
 | .dF => (p, o, r, none)
 | .opn s => if s < o.sb then (p, o, r, none) else if o.sb < s then (p, jW z o s, none_ z o, some (.hav s o.back)) else if o.aN = true then (p, o, r, some (.gone o.sb)) else (p, o, r, some (.hav o.sb o.back))
 | .msg s k f => if s ≠ o.sb then (p, o, r, none) else if o.aN = true then (p, o, r, some (.gone o.sb)) else if k ≠ o.want then (p, o, r, some (.ack o.sb o.want))
  else if r.j+1=r.ms.length then (p,{o with back:=r.to_,want:=o.want+1,got:=[],had:=r.eA},{r with j:=r.j+1},some (.ack o.sb (o.want+1)))
  else (p,{o with want:=o.want+1,got:=o.got++[f]},{r with j:=r.j+1},some (.ack o.sb (o.want+1)))
 | .hav s x => if s = p.s ∧ p.known = false then (aW { p with known := true, goal := x }, o, r, none) else (aW p, o, r, none)
 | .gone s => if s = p.s then (opened z p, o, r, none) else (aW p, o, r, none)
 | .ack s k => if s = p.s then (aW { p with base := p.base + eI p.base k p.queue.length, queue := p.queue.drop (eI p.base k p.queue.length) }, o, r, none) else (aW p, o, r, none)
variable {Good:Nat→H→List M→Nat→H→Prop} {z:H} {p:Fs M H} {o:Ot M H} {r:Rc M H}
theorem ky (h:Core Good z p o r):Core Good z (aW p) o r:=by
 unfold aW;split
 ·next hh=>exact vC h hh.1 (List.length_eq_zero_iff.mp hh.2)
 ·exact h
theorem lF {l:Lt M} (h:LOK p o r l):LOK (aW p) o r l:=by
 unfold aW;split
 ·exact yF _ h
 ·exact h
theorem At (b x:Nat):eI b x 0=0:=by unfold eI;split<;>omega
def fh (Good:Nat→H→List M→Nat→H→Prop) (z:H) (p:Fs M H) (o:Ot M H) (r:Rc M H) (ls:List (Lt M)):Prop:=Core Good z p o r∧∀ l∈ls,LOK p o r l
theorem fu {ls:List (Lt M)} (hf:fh Good z p o r ls) {l:Lt M} (hl:LOK p o r l) :
 fh Good z (ev z p o r l).1 (ev z p o r l).2.1 (ev z p o r l).2.2.1 (ls++(ev z p o r l).2.2.2.toList):=by
 obtain⟨hc,hls⟩:=hf;have same:∀ l',LOK p o r l'→fh Good z p o r (ls++[l']):=by
  intro l' h';refine⟨hc,fun x hx=>?_⟩;rcases List.mem_append.mp hx with hx|hx
  ·exact hls x hx
  ·rw[List.mem_singleton.mp hx];exact h'
 have same0:fh Good z p o r (ls++[]):=by rw[List.append_nil];exact⟨hc,hls⟩
 have lrn:fh Good z (aW p) o r (ls++[]):=by rw[List.append_nil];exact⟨ky hc,fun x hx=>lF (hls x hx)⟩
 cases l with
 | dF => exact same0
 | opn s =>
  unfold ev;by_cases h1:s<o.sb
  ·simp only[if_pos h1];exact same0
  ·simp only[if_neg h1]
   by_cases h2:o.sb<s
   ·simp only[if_pos h2]
    refine⟨xS hc hl h2,fun x hx=>?_⟩;rcases List.mem_append.mp hx with hx|hx
    ·exact A5 h2 (hls x hx)
    ·have hx':x=.hav s o.back:=by simpa using hx
     rw[hx'];exact uM (o:=jW z o s)
   ·simp only[if_neg h2]
    by_cases h3:o.aN=true
    ·simp only[if_pos h3];exact same _ (sj h3)
    ·simp only[if_neg h3];exact same _ uM
 | msg s k f =>
  unfold ev;by_cases h1:s≠o.sb
  ·simp only[if_pos h1];exact same0
  ·simp only[if_neg h1]
   have e1:s=o.sb:=Decidable.not_not.mp h1;by_cases h2:o.aN=true
   ·simp only[if_pos h2];exact same _ (sj h2)
   ·simp only[if_neg h2]
    have e2:o.aN=false:=by simpa using h2
    by_cases h3:k≠o.want
    ·simp only[if_pos h3];exact same _ (oL hc e2)
    ·simp only[if_neg h3]
     have e3:k=o.want:=Decidable.not_not.mp h3;rw[e1,e3] at hl;obtain⟨hm,hj⟩:=wanted hc e2 hl;by_cases h4:r.j+1=r.ms.length
     ·simp only[if_pos h4]
      have hc':=xT hc e2 h4;refine⟨hc',fun x hx=>?_⟩;rcases List.mem_append.mp hx with hx|hx
      ·exact A7 hc h4 (hls x hx) _ _ _
      ·have hx':x=.ack o.sb (o.want+1):=by simpa using hx
       rw[hx'];exact oL hc' e2
     ·simp only[if_neg h4]
      have hc':=xU hc e2 hm (by omega);refine⟨hc',fun x hx=>?_⟩;rcases List.mem_append.mp hx with hx|hx
      ·exact A8 (hls x hx) _ _
      ·have hx':x=.ack o.sb (o.want+1):=by simpa using hx
       rw[hx'];exact oL hc' e2
 | hav s x =>
  unfold ev;by_cases h1:s=p.s∧p.known=false
  ·simp only[if_pos h1]
   rw[h1.1] at hl;have hc':=(Ay hc h1.2 hl).1;refine⟨ky hc',fun y hy=>?_⟩;exact lF (yE _ (hls y (by simpa using hy)))
  ·simp only[if_neg h1];exact lrn
 | gone s =>
  unfold ev;by_cases h1:s=p.s
  ·simp only[if_pos h1]
   exact⟨lq hc _ _ (FG _),fun y hy=>sk hc _ _ (hls y (by simpa using hy))⟩
  ·simp only[if_neg h1];exact lrn
 | ack s k =>
  unfold ev;by_cases h1:s=p.s
  ·simp only[if_pos h1]
   have e1:o.sb=p.s:=Nat.le_antisymm hc.ses (by rw[←h1];exact hl.1);have e2:=hl.2 (by rw[h1,e1]);cases hk:p.known with
   | true =>
    have hb:=hc.kt hk;have hg:p.base+eI p.base k p.queue.length≤r.bu+r.j:=by unfold eI;split<;>omega
    have hc':=Ax hc hk hg;rw[hk] at hc';exact⟨ky hc',fun y hy=>lF (by have:=yC (p.base+eI p.base k p.queue.length) (p.queue.drop (eI p.base k p.queue.length)) (hls y (by simpa using hy));rw[hk] at this;exact this)⟩
   | false =>
    obtain⟨q1,q2,q3⟩:=hc.lL hk;have hq:p.queue.length=0:=by rw[q1];rfl
    rw[hq,At,Nat.add_zero,List.drop_zero];have e:({p with known:=false}:Fs M H)=p:=by rw[←hk]
    have lrn':=lrn;rw[←e] at lrn';exact lrn'
  ·simp only[if_neg h1];exact lrn
end Mx.Mir
end
section

namespace Mx.Mir
variable {M H:Type}
inductive Ends (z:H) (P:Fs M H→Ot M H→Rc M H→Prop):Fs M H→Ot M H→Rc M H→List (Lt M)→Prop where
 | nil {p : Fs M H} {o : Ot M H} {r : Rc M H} : P p o r → Ends z P p o r []
 | cons {p : Fs M H} {o : Ot M H} {r : Rc M H} {l : Lt M} {ls : List (Lt M)} : Ends z P (ev z p o r l).1 (ev z p o r l).2.1 (ev z p o r l).2.2.1 (ls ++ (ev z p o r l).2.2.2.toList) → Ends z P p o r (l :: ls)
variable {Good:Nat→H→List M→Nat→H→Prop} {z:H} {p:Fs M H} {o:Ot M H} {r:Rc M H}
def way:Lt M→Nat
 | .dF => 1
 | .opn _ => 2
 | .msg _ _ _ => 2
 | .hav _ _ => 1
 | .gone _ => 1
 | .ack _ _ => 1
def bW (ls:List (Lt M)):Nat:=(ls.map way).sum
theorem tp (a b:List (Lt M)):bW (a++b)=bW a+bW b:=by unfold bW;rw[List.map_append,List.sum_append]
theorem yk (z:H) (p:Fs M H) (o:Ot M H) (r:Rc M H) (l:Lt M):bW ((ev z p o r l).2.2.2.toList)<way l:=by
 unfold bW;cases l with
 | dF => simp [ev, way]
 | opn s =>
  simp only[ev];split
  ·simp[way]
  ·split
   ·simp[way]
   ·split<;>simp[way]
 | msg s k f =>
  simp only[ev];split
  ·simp[way]
  ·split
   ·simp[way]
   ·split
    ·simp[way]
    ·split<;>simp[way]
 | hav s x => simp only [ev]; split <;> simp [way]
 | gone s => simp only [ev]; split <;> simp [way]
 | ack s k => simp only [ev]; split <;> simp [way]
theorem yg:∀ (n:Nat) (p:Fs M H) (o:Ot M H) (r:Rc M H) (ls:List (Lt M)),bW ls≤n→fh Good z p o r ls→Ends z (fun p' o' r'=>Core Good z p' o' r') p o r ls:=by
 intro n;induction n with
 | zero =>
  intro p o r ls hn hf;cases ls with
  | nil => exact .nil hf.1
  | cons l ls =>
   exfalso;have:0<way l:=by cases l<;>simp[way]
   unfold bW at hn;simp at hn;omega
 | succ n ih =>
  intro p o r ls hn hf;cases ls with
  | nil => exact .nil hf.1
  | cons l ls =>
   refine .cons (ih _ _ _ _ ?_ ?_)
   ·have h1:=yk z p o r l
    rw[tp];have h2:bW (l::ls)=way l+bW ls:=by unfold bW;simp
    omega
   ·exact fu ⟨hf.1,fun x hx=>hf.2 x (List.mem_cons_of_mem _ hx)⟩ (hf.2 l (List.mem_cons_self ..))
structure Step (Good:Nat→H→List M→Nat→H→Prop) (z:H) (hv gl:Nat) (p:Fs M H) (o:Ot M H) (r:Rc M H):Prop where
 core:Core Good z p o r
 known:p.known=true
 zP:o.aN=false
 empty:p.queue=[]
 safe:p.safe=p.goal
 goal:p.goal=gl
 ao:p.ao=hv
theorem yi (hc:Core Good z p o r) (hk:p.known=false) (hf:o.aN=false∨o.sb<p.s) :
 Ends z (Step Good z p.ao o.back) p o r [.opn p.s]:=by
 have hs:=hc.ses;obtain⟨q1,q2,q3⟩:=hc.lL hk;have F0:fh Good z p o r []:=⟨hc,fun x hx=>by simp at hx⟩
 have F1:=fu F0 (oN (p:=p) (o:=o) (r:=r));by_cases h2:o.sb<p.s
 ·refine .cons ?_
  have e:ev z p o r (.opn p.s)=(p,jW z o p.s,none_ z o,some (.hav p.s o.back)):=by
   simp only[ev];rw[if_neg (by omega),if_pos h2]
  rw[e] at F1 ⊢;have F2:=fu (ls:=[]) ⟨F1.1,fun x hx=>by simp at hx⟩ (F1.2 (.hav p.s o.back) (by simp));refine .cons ?_;have e2:ev z p (jW z o p.s) (none_ z o) (.hav p.s o.back)=({p with known:=true,goal:=o.back,safe:=o.back},jW z o p.s,none_ z o,none):=by
   simp[ev,hk,aW,q1]
  simp only at F2 ⊢;rw[e2] at F2 ⊢;exact .nil ⟨F2.1,rfl,rfl,q1,rfl,rfl,rfl⟩
 ·have h3:o.sb=p.s:=by omega
  have h4:o.aN=false:=by rcases hf with h|h;exact h;omega
  refine .cons ?_;have e:ev z p o r (.opn p.s)=(p,o,r,some (.hav p.s o.back)):=by
   simp only[ev];rw[if_neg (by omega),if_neg h2,if_neg (by simp[h4]),h3]
  rw[e] at F1 ⊢;have F2:=fu (ls:=[]) ⟨F1.1,fun x hx=>by simp at hx⟩ (F1.2 (.hav p.s o.back) (by simp));refine .cons ?_;have e2:ev z p o r (.hav p.s o.back)=({p with known:=true,goal:=o.back,safe:=o.back},o,r,none):=by
   simp[ev,hk,aW,q1]
  simp only at F2 ⊢;rw[e2] at F2 ⊢;exact .nil ⟨F2.1,rfl,h4,q1,rfl,rfl,rfl⟩
structure rm (Good:Nat→H→List M→Nat→H→Prop) (z:H) (hv:Nat) (p:Fs M H) (o:Ot M H) (r:Rc M H):Prop where
 core:Core Good z p o r
 known:p.known=false
 ahead:o.sb<p.s
 ao:p.ao=hv
theorem yh (hc:Core Good z p o r) (hf:o.aN=true) (hs:o.sb=p.s):Ends z (rm Good z p.ao) p o r [.opn p.s]:=by
 have F0:fh Good z p o r []:=⟨hc,fun x hx=>by simp at hx⟩
 have F1:=fu F0 (oN (p:=p) (o:=o) (r:=r));refine .cons ?_;have e:ev z p o r (.opn p.s)=(p,o,r,some (.gone p.s)):=by
  simp only[ev];rw[if_neg (by omega),if_neg (by omega),if_pos hf,hs]
 rw[e] at F1 ⊢;have F2:=fu (ls:=[]) ⟨F1.1,fun x hx=>by simp at hx⟩ (F1.2 (.gone p.s) (by simp));refine .cons ?_;have e2:ev z p o r (.gone p.s)=(opened z p,o,r,none):=by
  simp[ev]
 simp only at F2 ⊢;rw[e2] at F2 ⊢;exact .nil ⟨F2.1,rfl,by unfold opened;simp only;omega,rfl⟩
def bE (s:Nat):Nat→List M→List (Lt M)
 | _, [] => []
 | b, f :: fs => .msg s b f :: bE s (b + 1) fs
theorem gA {s:Nat}:∀ {b:Nat} {fs:List M} {l:Lt M},l∈bE s b fs→∃ i f,fs[i]?=some f∧l=.msg s (b+i) f
 | _, [], _, h => by simp [bE] at h
 | b, f :: fs, l, h => by
  simp only[bE,List.mem_cons] at h;rcases h with h|h
  ·exact⟨0,f,rfl,h⟩
  ·obtain⟨i,g,h1,h2⟩:=gA h
   exact⟨i+1,g,h1,by rw[h2];congr 1;omega⟩
theorem nD {P:Fs M H→Ot M H→Rc M H→Prop} (hk:p.known=true):∀ (fs:List M) (b:Nat) (o:Ot M H) (r:Rc M H) (acks:List (Lt M)),
 fh Good z p o r (bE p.s b fs++acks)→o.aN=false→b≤o.want→o.want≤b+fs.length→r.bu+r.ms.length=b+fs.length →
 (∀ a∈acks,∃ x,a=.ack p.s x) →
 (∀ (o':Ot M H) (r':Rc M H) (acks':List (Lt M)),fh Good z p o' r' acks'→o'.aN=false→r'.bu+r'.ms.length=b+fs.length→r'.j=r'.ms.length→(∀ a∈acks',∃ x,a=.ack p.s x)→(∀ a∈acks,a∈acks')→(fs≠[]→.ack p.s (b+fs.length)∈acks')→Ends z P p o' r' acks') →
 Ends z P p o r (bE p.s b fs++acks)
 | [], b, o, r, acks, hf, hg, h1, h2, h3, ha, K => by
  have hw:=hf.1.want hg;refine K o r acks hf hg h3 ?_ ha (fun _ h=>h) (fun h=>absurd rfl h);simp at h2 h3;omega
 | f :: fs, b, o, r, acks, hf, hg, h1, h2, h3, ha, K => by
  have hs:=hf.1.rX hk;have hl:LOK p o r (.msg p.s b f):=hf.2 _ (by simp[bE]);have F1:=fu (ls:=bE p.s (b+1) fs++acks) ⟨hf.1,fun x hx=>hf.2 x (by simp only[bE,List.cons_append];exact List.mem_cons_of_mem _ hx)⟩ hl;simp only[bE,List.cons_append];simp only[List.length_cons] at h2 h3 K;refine .cons ?_;have hw:=hf.1.want hg;have go:∀ (o1:Ot M H) (r1:Rc M H) (x:Nat),ev z p o r (.msg p.s b f)=(p,o1,r1,some (.ack p.s x))→o1.aN=false→b+1≤o1.want→o1.want≤b+1+fs.length→r1.bu+r1.ms.length=b+1+fs.length→(fs=[]→x=b+1) →
   Ends z P (ev z p o r (.msg p.s b f)).1 (ev z p o r (.msg p.s b f)).2.1 (ev z p o r (.msg p.s b f)).2.2.1 (bE p.s (b+1) fs++acks++(ev z p o r (.msg p.s b f)).2.2.2.toList):=by
   intro o1 r1 x e g1 g2 g3 g4 g5;rw[e] at F1 ⊢;simp only[Option.toList_some,List.append_assoc] at F1 ⊢;refine nD hk fs (b+1) o1 r1 (acks++[.ack p.s x]) F1 g1 g2 g3 g4 (fun a h=>?_) (fun o' r' acks' k1 k2 k3 k4 k5 k6 k7=>?_)
   ·rcases List.mem_append.mp h with h|h
    ·exact ha a h
    ·exact⟨x,List.mem_singleton.mp h⟩
   ·refine K o' r' acks' k1 k2 (by omega) k4 k5 (fun a h=>k6 a (List.mem_append_left _ h)) (fun _=>?_)
    by_cases hn:fs=[]
    ·have hx:=k6 (.ack p.s x) (List.mem_append_right _ (List.mem_singleton.mpr rfl))
     rw[g5 hn] at hx;rw[hn];exact hx
    ·have hx:=k7 hn
     rw[show b+(fs.length+1)=b+1+fs.length by omega];exact hx
  by_cases h4:b=o.want
  ·by_cases h5:r.j+1=r.ms.length
   ·refine go {o with back:=r.to_,want:=o.want+1,got:=[],had:=r.eA} {r with j:=r.j+1} (o.want+1) (by simp only[ev];rw[if_neg (by simp[hs]),if_neg (by simp[hg]),if_neg (by simp[h4]),if_pos h5,hs]) hg (by simp only;omega) (by simp only;omega) (by simp only;omega) (fun _=>by omega)
   ·refine go {o with want:=o.want+1,got:=o.got++[f]} {r with j:=r.j+1} (o.want+1) (by simp only[ev];rw[if_neg (by simp[hs]),if_neg (by simp[hg]),if_neg (by simp[h4]),if_neg h5,hs]) hg (by simp only;omega) (by simp only;omega) (by simp only;omega) (fun _=>by omega)
  ·refine go o r o.want (by simp only[ev];rw[if_neg (by simp[hs]),if_neg (by simp[hg]),if_pos h4,hs]) hg (by omega) (by omega) (by omega) (fun e=>by rw[e] at h2;simp at h2;omega)
theorem pw {hv gl:Nat}:∀ (acks:List (Lt M)) (p:Fs M H),fh Good z p o r acks→p.known=true→o.aN=false→r.j=r.ms.length→p.goal=gl→p.ao=hv →
 (∀ a∈acks,∃ x,a=.ack p.s x)→(p.queue=[]∧p.safe=p.goal)∨.ack p.s (r.bu+r.ms.length)∈acks→Ends z (Step Good z hv gl) p o r acks
 | [], p, hf, hk, hg, _, h1, h2, _, h4 => by
  rcases h4 with h4|h4
  ·exact .nil ⟨hf.1,hk,hg,h4.1,h4.2,h1,h2⟩
  ·simp at h4
 | a :: acks, p, hf, hk, hg, hj, h1, h2, h3, h4 => by
  obtain⟨x,rfl⟩:=h3 a (List.mem_cons_self ..);have F1:=fu (ls:=acks) ⟨hf.1,fun y hy=>hf.2 y (List.mem_cons_of_mem _ hy)⟩ (hf.2 _ (List.mem_cons_self ..));refine .cons ?_;have kb:=hf.1.kt hk;have kq:=hf.1.jY hk;have hfour:=hf.1.four;have hql:p.queue.length=r.ms.length-(p.base-r.bu):=by rw[kq,List.length_drop]
  obtain⟨g,hgd⟩:∃ g,g=eI p.base x p.queue.length:=⟨_,rfl⟩
  have e:ev z p o r (.ack p.s x)=(aW {p with base:=p.base+g,queue:=p.queue.drop g},o,r,none):=by simp[ev,hgd]
  rw[e] at F1 ⊢;simp only[Option.toList_none,List.append_nil] at F1 ⊢;have l1:∀ q:Fs M H,(aW q).known=q.known∧(aW q).goal=q.goal∧(aW q).ao=q.ao∧(aW q).s=q.s∧(aW q).queue=q.queue:=by
   intro q;unfold aW;split<;>exact⟨rfl,rfl,rfl,rfl,rfl⟩
  have l2:∀ q:Fs M H,q.known=true→q.queue=[]→(aW q).safe=q.goal:=by
   intro q k1 k2;unfold aW;rw[if_pos ⟨k1,by rw[k2];rfl⟩]
  obtain⟨m1,m2,m3,m4,m5⟩:=l1 {p with base:=p.base+g,queue:=p.queue.drop g};refine pw acks _ F1 (by rw[m1];exact hk) hg hj (by rw[m2];exact h1) (by rw[m3];exact h2) (fun a ha=>by rw[m4];exact h3 a (List.mem_cons_of_mem _ ha)) ?_;have fin:p.queue.drop g=[]→((aW {p with base:=p.base+g,queue:=p.queue.drop g}).queue=[]∧(aW {p with base:=p.base+g,queue:=p.queue.drop g}).safe=(aW {p with base:=p.base+g,queue:=p.queue.drop g}).goal):=by
   intro hq;exact⟨by rw[m5];exact hq,by rw[m2];exact l2 _ hk hq⟩
  rcases h4 with h4|h4
  ·exact .inl (fin (by rw[h4.1];exact List.drop_nil))
  ·rcases List.mem_cons.mp h4 with h4|h4
   ·refine .inl (fin (List.drop_eq_nil_iff.mpr ?_))
    have hx:x=r.bu+r.ms.length:=by injection h4 with _ h;exact h.symm
    rw[hgd];unfold eI;rw[if_pos (by omega)];omega
   ·exact .inr (by rw[m4];exact h4)
theorem pA (hc:Core Good z p o r) (hk:p.known=true) (hg:o.aN=false) (hq:p.queue≠[]):Ends z (Step Good z p.ao p.goal) p o r (bE p.s p.base p.queue):=by
 have kb:=hc.kt hk;have kq:=hc.jY hk;have hjl:=hc.jl;have hw:=hc.want hg;have hql:p.queue.length=r.ms.length-(p.base-r.bu):=by rw[kq,List.length_drop]
 have hpos:0<p.queue.length:=List.length_pos_iff.mpr hq;have e:=nD (P:=Step Good z p.ao p.goal) hk p.queue p.base o r [] ⟨hc,fun x hx=>by
  rw[List.append_nil] at hx;obtain⟨i,f,h1,rfl⟩:=gA hx;exact oM hc hk h1⟩ hg (by omega) (by omega) (by omega) (fun a h=>by simp at h)
  (fun o' r' acks' k1 k2 k3 k4 k5 _ k7=>pw acks' p k1 hk k2 k4 rfl rfl k5 (.inr (by rw[k3];exact k7 hq)))
 rw[List.append_nil] at e;exact e
theorem AY (h:p.known=false):aW p=p:=by unfold aW;rw[if_neg (by simp[h])]
theorem nE {hv s:Nat}:∀ (ls:List (Lt M)),rm Good z hv p o r→(∀ l∈ls,l=.gone s)→s<p.s→Ends z (rm Good z hv) p o r ls
 | [], h, _, _ => .nil h
 | l :: ls, h, hl, hs => by
  have e1:=hl l (List.mem_cons_self ..);subst e1;refine .cons ?_;have e:ev z p o r (.gone s)=(p,o,r,none):=by
   simp only[ev];rw[if_neg (by omega),AY h.known]
  rw[e];simp only[Option.toList_none,List.append_nil];exact nE ls h (fun x hx=>hl x (List.mem_cons_of_mem _ hx)) hs
theorem lu {hv:Nat} (hc:Core Good z p o r) (hf:o.aN=true) (hs:o.sb=p.s) (hv':p.ao=hv):∀ (fs:List M) (b:Nat) (gs:List (Lt M)),(∀ l∈gs,l=.gone p.s)→fs≠[]∨gs≠[]→Ends z (rm Good z hv) p o r (bE p.s b fs++gs)
 | [], b, [], _, h => by simp at h
 | [], b, g :: gs, hg, _ => by
  have e1:=hg g (List.mem_cons_self ..);subst e1;refine .cons ?_;have e:ev z p o r (.gone p.s)=(opened z p,o,r,none):=by simp[ev]
  rw[e];simp only[Option.toList_none,List.append_nil];refine nE (s:=p.s) gs ⟨lq hc _ _ (FG _),rfl,?_,hv'⟩ (fun x hx=>hg x (List.mem_cons_of_mem _ hx)) ?_
  ·unfold opened;simp only;omega
  ·unfold opened;simp only;omega
 | f :: fs, b, gs, hg, _ => by
  simp only[bE,List.cons_append];refine .cons ?_;have e:ev z p o r (.msg p.s b f)=(p,o,r,some (.gone p.s)):=by
   simp only[ev];rw[if_neg (by simp[hs]),if_pos hf,hs]
  rw[e];simp only[Option.toList_some,List.append_assoc];refine lu hc hf hs hv' fs (b+1) (gs++[.gone p.s]) (fun l hl=>?_) (.inr (by simp));rcases List.mem_append.mp hl with hl|hl
  ·exact hg l hl
  ·exact List.mem_singleton.mp hl
end Mx.Mir
end
section

namespace Mx.Mir
variable {M H:Type} {Good:Nat→H→List M→Nat→H→Prop} {z:H} {p:Fs M H} {o:Ot M H} {r:Rc M H}
def Kn (p:Fs M H):Prop:=p.known=true→p.queue=[]→p.safe=p.goal
theorem mN (p:Fs M H):Kn (aW p):=by
 intro h1 h2;unfold aW at h1 h2 ⊢;by_cases h:p.known=true∧p.queue.length=0
 ·rw[if_pos h]
 ·rw[if_neg h] at h1 h2
  exact absurd ⟨h1,by rw[h2];rfl⟩ h
theorem rj (h:p.known=false):Kn p:=by intro h1;rw[h] at h1;cases h1
theorem ES (h:Kn p) (l:Lt M):Kn (ev z p o r l).1:=by
 cases l with
 | dF => exact h
 | opn s =>
  simp only[ev];split
  ·exact h
  ·split
   ·exact h
   ·split<;>exact h
 | msg s k f =>
  simp only[ev];split
  ·exact h
  ·split
   ·exact h
   ·split
    ·exact h
    ·split<;>exact h
 | hav s x => simp only [ev]; split <;> exact mN _
 | gone s =>
  simp only[ev];split
  ·exact rj rfl
  ·exact mN _
 | ack s k => simp only [ev]; split <;> exact mN _
theorem uC (l:Lt M):(ev z p o r l).1.ao=p.ao:=by
 have hl:∀ q:Fs M H,(aW q).ao=q.ao:=by intro q;unfold aW;split<;>rfl
 cases l with
 | dF => rfl
 | opn s =>
  simp only[ev];split
  ·rfl
  ·split
   ·rfl
   ·split<;>rfl
 | msg s k f =>
  simp only[ev];split
  ·rfl
  ·split
   ·rfl
   ·split
    ·rfl
    ·split<;>rfl
 | hav s x => simp only [ev]; split <;> simp [hl]
 | gone s =>
  simp only[ev];split
  ·rfl
  ·exact hl p
 | ack s k => simp only [ev]; split <;> simp [hl]
inductive ie (Good:Nat→H→List M→Nat→H→Prop) (p:Fs M H) (r:Rc M H):Fs M H→Rc M H→List (Lt M)→Prop where
 | opn : p.known = false → ie Good p r p r [.opn p.s]
 | again : p.known = true → p.queue ≠ [] ∨ p.ao ≤ p.goal → ie Good p r p r (bE p.s p.base p.queue)
 | offer {ms : List M} {d : H} : p.known = true → p.queue = [] → p.goal < p.ao → ms ≠ [] → ms.length ≤ 4 → Good p.goal p.had ms p.ao d →
  ie Good p r {p with goal:=p.ao,queue:=ms,had:=d} ⟨p.base,ms,p.goal,p.ao,0,p.had,d⟩ (bE p.s p.base ms)
theorem qp {ls:List (Lt M)} (hf:fh Good z p o r ls) {p':Fs M H} {r':Rc M H} {l:List (Lt M)} (h:ie Good p r p' r' l):fh Good z p' o r' (ls++l):=by
 cases h with
 | opn hk =>
  refine⟨hf.1,fun x hx=>?_⟩;rcases List.mem_append.mp hx with hx|hx
  ·exact hf.2 x hx
  ·rw[List.mem_singleton.mp hx];exact oN
 | again hk _ =>
  refine⟨hf.1,fun x hx=>?_⟩;rcases List.mem_append.mp hx with hx|hx
  ·exact hf.2 x hx
  ·obtain⟨i,f,h1,rfl⟩:=gA hx
   exact oM hf.1 hk h1
 | offer hk hq hg hm h4 hgood =>
  rename_i ms d;have hc:=vD hf.1 hk hq hg hm h4 hgood;refine⟨hc,fun x hx=>?_⟩;rcases List.mem_append.mp hx with hx|hx
  ·exact yG hf.1 hk hq ms d (hf.2 x hx)
  ·obtain⟨i,f,h1,rfl⟩:=gA hx
   exact oM (p:={p with goal:=p.ao,queue:=ms,had:=d}) hc hk h1
theorem DG (h:Kn p) {p':Fs M H} {r':Rc M H} {l:List (Lt M)} (hs:ie Good p r p' r' l):Kn p':=by
 cases hs with
 | opn hk => exact h
 | again hk _ => exact h
 | offer hk hq hg hm h4 hgood => intro _ h2; exact absurd h2 hm
theorem qq {p':Fs M H} {r':Rc M H} {l:List (Lt M)} (hs:ie Good p r p' r' l):p'.ao=p.ao:=by cases hs<;>rfl
def gP (p:Fs M H) (o:Ot M H):Nat :=
 if p.safe=p.ao then 0 else if p.known=true then (if o.aN=true then 3 else if p.queue.length=0 then 1 else 2) else if o.aN=true∧o.sb=p.s then 3 else 2
theorem Ds:gP p o≤3:=by unfold gP;split;omega;split;split;omega;split<;>omega;split<;>omega
theorem Ends.mono {P Q:Fs M H→Ot M H→Rc M H→Prop} (hi:∀ p o r,P p o r→Q p o r) {ls:List (Lt M)} (h:Ends z P p o r ls):Ends z Q p o r ls:=by
 induction h with
 | nil h => exact .nil (hi _ _ _ h)
 | cons _ ih => exact .cons ih
theorem zV (hc:Core Good z p o r) (hn:Kn p) {k:Nat} (hr:gP p o≤k+1) (hd:p.safe≠p.ao) {p':Fs M H} {r':Rc M H} {l:List (Lt M)} (hs:ie Good p r p' r' l) :
 Ends z (fun p1 o1 r1=>Core Good z p1 o1 r1∧Kn p1∧p1.ao=p.ao∧gP p1 o1≤k) p' o r' l:=by
 have F:=qp (ls:=[]) ⟨hc,fun x hx=>by simp at hx⟩ hs;unfold gP at hr;rw[if_neg hd] at hr;have stp:∀ {g:Nat} {p1:Fs M H} {o1:Ot M H} {r1:Rc M H},Step Good z p.ao g p1 o1 r1→(g=p.ao∨1≤k)→Core Good z p1 o1 r1∧Kn p1∧p1.ao=p.ao∧gP p1 o1≤k:=by
  intro g p1 o1 r1 h hg;refine⟨h.core,fun _ _=>h.safe,h.ao,?_⟩;unfold gP;split
  ·omega
  ·next hh =>
   have h1:=h.safe;have h2:=h.goal;have h3:=h.ao;rw[if_pos h.known,if_neg (by simp[h.zP]),if_pos (by rw[h.empty];rfl)];omega
 have anw:2≤k→∀ {p1:Fs M H} {o1:Ot M H} {r1:Rc M H},rm Good z p.ao p1 o1 r1→Core Good z p1 o1 r1∧Kn p1∧p1.ao=p.ao∧gP p1 o1≤k:=by
  intro h2 p1 o1 r1 h;refine⟨h.core,rj h.known,h.ao,?_⟩;have h1:=h.ahead;unfold gP;split
  ·omega
  ·rw[if_neg (by simp[h.known]),if_neg (by omega)]
   omega
 cases hs with
 | opn hk =>
  rw[if_neg (by simp[hk])] at hr;by_cases hf:o.aN=true∧o.sb=p.s
  ·rw[if_pos hf] at hr
   exact(yh hc hf.1 hf.2).mono (fun _ _ _ h=>anw (by omega) h)
  ·rw[if_neg hf] at hr
   have hs:=hc.ses;refine(yi hc hk ?_).mono (fun _ _ _ h=>stp h (.inr (by omega)));by_cases h1:o.aN=true
   ·exact .inr (by have:o.sb≠p.s:=fun e=>hf ⟨h1,e⟩;omega)
   ·exact .inl (by simpa using h1)
 | again hk hq =>
  rw[if_pos hk] at hr;have hq':p.queue≠[]:=by
   rcases hq with h|h
   ·exact h
   ·intro e
    have h1:=hn hk e;have h2:=hc.vW hk;have h3:=hc.to_;exact hd (by omega)
  by_cases hf:o.aN=true
  ·rw[if_pos hf] at hr
   have e:=lu hc hf (hc.rX hk) rfl p.queue p.base [] (fun l h=>by simp at h) (.inl hq');rw[List.append_nil] at e;exact e.mono (fun _ _ _ h=>anw (by omega) h)
  ·rw[if_neg hf,if_neg (by have:=List.length_pos_iff.mpr hq';omega)] at hr
   exact(pA hc hk (by simpa using hf) hq').mono (fun _ _ _ h=>stp h (.inr (by omega)))
 | offer hk hq hg hm h4 hgood =>
  rename_i ms d;rw[if_pos hk] at hr;by_cases hf:o.aN=true
  ·rw[if_pos hf] at hr
   have e:=lu (p:={p with goal:=p.ao,queue:=ms,had:=d}) F.1 hf (hc.rX hk) rfl ms p.base [] (fun l h=>by simp at h) (.inl hm);rw[List.append_nil] at e;exact e.mono (fun _ _ _ h=>anw (by omega) h)
  ·exact(pA (p:={p with goal:=p.ao,queue:=ms,had:=d}) F.1 hk (by simpa using hf) hm).mono (fun _ _ _ h=>stp h (.inl rfl))
end Mx.Mir
end
end Go.Proofs.YtbicgjafjjihdaaGreat
