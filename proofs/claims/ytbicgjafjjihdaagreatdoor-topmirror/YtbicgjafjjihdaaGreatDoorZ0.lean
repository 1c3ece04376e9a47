/- Part. -/
import Derived.Below
set_option maxHeartbeats 16000000
set_option maxRecDepth 100000
namespace Go.Proofs.YtbicgjafjjihdaaGreatDoor
section
abbrev Gq (w v:World):Prop:=RowKit.Below w.heap.size w v
end
section
theorem _root_.Go.RowKit.Hid.o {p:Prop} (h:Go.RowKit.Hid p):p:=h
theorem F0 {α:Type _} {l:List α} {i:Nat} (h:i<l.length):l[i]?=some l[i]:=List.getElem?_eq_getElem h
theorem Ga {α:Type _} {l:List α} {i:Nat} {a:α}:l.getD i a=l[i]?.getD a:=List.getD_eq_getElem?_getD
theorem Gb {α:Type _} {a:α} {l:List α}:(a::l)[0]?=some a:=List.getElem?_cons_zero
theorem Gc {α:Type _} {a:α} {i:Nat} {l:List α}:(a::l)[i+1]?=l[i]?:=List.getElem?_cons_succ
theorem Gd {α:Type _} {xs:List α} {i:Nat}:xs.toArray[i]?=xs[i]?:=List.getElem?_toArray
theorem Ge {α:Type _} {as bs:List α}:(as++bs).length=as.length+bs.length:=List.length_append
theorem Gf {n m k:Nat} (h:n<m) (g:m≤k):n<k:=Nat.lt_of_lt_of_le h g
theorem Gg {α:Type _} {a b:α} (h:some a=some b):a=b:=Option.some.inj h
theorem Gh {α:Type _} {i:Nat} {a:α} {l:List α}:l[i]?=some a↔∃ h,l[i]=a:=List.getElem?_eq_some_iff
theorem Gi (n:Nat):n≤n:=Nat.le_refl n
theorem Gj {α:Type _} {i:Nat} {l:List α} (h:l.length≤i):l.take i=l:=List.take_of_length_le h
theorem Gk {α:Type _} {i:Nat} {l:List α}:(l.take i).length=min i l.length:=List.length_take
theorem Gl {α:Type _} {a b:List α} {i:Nat} (h:a.length≤i):(a++b)[i]?=b[i-a.length]?:=List.getElem?_append_right h
theorem Gm {α:Type _} {a b:List α} {i:Nat} (h:i<a.length):(a++b)[i]?=a[i]?:=List.getElem?_append_left h
theorem Gn {n m k:Nat} (h:n≤m) (g:m≤k):n≤k:=Nat.le_trans h g
theorem Gp {α:Type _} {l:List α} {i:Nat} {a:α} (e:l[i]?=some a):a∈l:=List.mem_of_getElem? e
end
section

namespace Mx
def im:Nat:=3988292384
def lN (x b:Nat):Nat:=if (x+b)%2=1 then (x/2) ^^^ im else x/2
def dp (x c:Nat):Nat→Nat
 | 0 => x
 | k + 1 => lN (dp x c k) (c / 2 ^ k)
def fH (y:Nat):Nat:=if y%2=1 then (y/2) ^^^ im else y/2
def dR (y:Nat):Nat→Nat
 | 0 => y
 | k + 1 => fH (dR y k)
def reg (x:Nat) (l:List Int):Nat:=l.foldl (fun x c=>dp x c.toNat 8) x
def crc (l:List Int):Nat:=4294967295-reg 4294967295 l
theorem xor_div_two (a b:Nat):(a ^^^ b)/2=(a/2) ^^^ (b/2):=by
 apply Nat.eq_of_testBit_eq;intro i;simp[Nat.testBit_div_two,Nat.testBit_xor]
theorem uq (a b:Nat):(a ^^^ b)%2=(a+b)%2:=by
 have h:=Nat.testBit_xor a b 0;simp only[Nat.testBit_zero] at h;rcases Nat.mod_two_eq_zero_or_one a with ha|ha<;>rcases Nat.mod_two_eq_zero_or_one b with hb|hb <;>
  rcases Nat.mod_two_eq_zero_or_one (a ^^^ b) with hc|hc<;>simp[ha,hb,hc] at h<;>omega
theorem Co (a b c:Nat):(a ^^^ b) ^^^ c=(a ^^^ c) ^^^ b:=by
 rw[Nat.xor_assoc,Nat.xor_comm b c,←Nat.xor_assoc]
theorem vU (x d:Nat):fH (x ^^^ d)=lN x d ^^^ (d/2):=by
 unfold fH lN;rw[uq,xor_div_two];by_cases h:(x+d)%2=1
 ·rw[if_pos h,if_pos h,Co]
 ·rw[if_neg h,if_neg h]
theorem tI (x c:Nat) (k:Nat):dR (x ^^^ c) k=dp x c k ^^^ (c/2 ^ k):=by
 induction k with
 | zero => simp [dR, dp]
 | succ k ih =>
  rw[dR,dp,ih,vU,Nat.div_div_eq_div_mul,Nat.pow_succ]
theorem eX (x c:Nat) (h:c<256):dR (x ^^^ c) 8=dp x c 8:=by
 rw[tI,Nat.div_eq_of_lt (by simpa using h),Nat.xor_zero]
theorem lX:im<4294967296:=by decide
theorem ie (a b:Nat) (ha:a<4294967296) (hb:b<4294967296):a ^^^ b<4294967296 :=
 Nat.xor_lt_two_pow (n:=32) ha hb
theorem zR (x b:Nat) (h:x<4294967296):lN x b<4294967296:=by
 unfold lN;split
 ·exact ie _ _ (by omega) lX
 ·omega
theorem yv (x:Nat) (h:x<4294967296):fH x<4294967296:=by
 unfold fH;split
 ·exact ie _ _ (by omega) lX
 ·omega
theorem gG (x c k:Nat) (h:x<4294967296):dp x c k<4294967296:=by
 induction k with
 | zero => exact h
 | succ k ih => exact zR _ _ ih
theorem nJ (x k:Nat) (h:x<4294967296):dR x k<4294967296:=by
 induction k with
 | zero => exact h
 | succ k ih => exact yv _ ih
theorem sV (x:Nat) (l:List Int) (h:x<4294967296):reg x l<4294967296:=by
 unfold reg;induction l generalizing x with
 | nil => exact h
 | cons c l ih => exact ih _ (gG _ _ _ h)
theorem BV (x:Nat) (l:List Int) (c:Int):reg x (l++[c])=dp (reg x l) c.toNat 8:=by
 simp[reg,List.foldl_append]
theorem od (x:Nat) (l m:List Int):reg x (l++m)=reg (reg x l) m:=by
 simp[reg,List.foldl_append]
theorem rI (l:List Int):crc l<4294967296:=by unfold crc;omega
end Mx
end
section

namespace Mx.Mir
inductive Lt (M:Type) where
 | dV
 | opn (s : Nat)
 | msg (s k : Nat) (f : M)
 | hav (s h : Nat)
 | gone (s : Nat)
 | ack (s k : Nat)
structure Rc (M H:Type) where
 bu:Nat
 ms:List M
 prev:Nat
 to_:Nat
 j:Nat
 il:H
 eL:H
structure Fs (M H:Type) where
 ar:Nat
 s:Nat
 safe:Nat
 known:Bool
 goal:Nat
 base:Nat
 queue:List M
 had:H
structure Ot (M H:Type) where
 back:Nat
 sb:Nat
 bG:Bool
 want:Nat
 got:List M
 had:H
variable {M H:Type}
structure Core (Good:Nat→H→List M→Nat→H→Prop) (z:H) (p:Fs M H) (o:Ot M H) (r:Rc M H):Prop where
 ses:o.sb≤p.s
 back:o.back≤p.ar
 safe:p.safe≤o.back
 to_:r.to_≤p.ar
 four:r.ms.length≤4
 jl:r.j≤r.ms.length
 before:r.j<r.ms.length→o.back=r.prev
 behind:r.j=r.ms.length→o.back=r.to_
 want:o.bG=false→o.want=r.bu+r.j
 got:o.bG=false→o.got=if r.j=r.ms.length then [] else r.ms.take r.j
 had:o.bG=false→o.had=if r.j=r.ms.length then r.eL else r.il
 vN:r.ms≠[]→Good r.prev r.il r.ms r.to_ r.eL
 later:r.ms≠[]→r.prev<r.to_
 ET:p.known=true→o.sb=p.s
 nK:p.known=true→r.bu≤p.base∧p.base≤r.bu+r.j
 nM:p.known=true→p.queue=r.ms.drop (p.base-r.bu)
 Cv:p.known=true→p.goal=r.to_
 ES:p.known=true→p.had=r.eL
 nU:p.known=false→p.queue=[]∧p.base=0∧p.had=z
 EZ:p.known=false→o.sb=p.s→r.ms=[]∧r.bu=0∧r.eL=z
def LOK (p:Fs M H) (o:Ot M H) (r:Rc M H):Lt M→Prop
 | .dV => True
 | .opn s => s ≤ p.s
 | .msg s k f => s ≤ o.sb ∧ (s = o.sb → k < r.bu + r.ms.length ∧ (r.bu ≤ k → r.ms[k - r.bu]? = some f))
 | .hav s h => s ≤ o.sb ∧ (s = p.s → p.known = false → h = o.back)
 | .gone s => s ≤ o.sb ∧ (s = o.sb → o.bG = true)
 | .ack s k => s ≤ o.sb ∧ (s = o.sb → k ≤ r.bu + r.j)
variable {Good:Nat→H→List M→Nat→H→Prop} {z:H} {p:Fs M H} {o:Ot M H} {r:Rc M H}
theorem vB:Core Good z (⟨0,1,0,false,0,0,[],z⟩:Fs M H) ⟨0,0,true,2147483647,[],z⟩ ⟨0,[],0,0,0,z,z⟩:=by
 constructor<;>simp
theorem Core.mono {G':Nat→H→List M→Nat→H→Prop} (hi:∀ a b c d e,Good a b c d e→G' a b c d e) (h:Core Good z p o r):Core G' z p o r:=by
 obtain⟨h1,h2,h3,h4,h5,h6,h7,h8,h9,h10,h11,h12,h13,h14,h15,h16,h17,h18,h19,h20⟩:=h;exact⟨h1,h2,h3,h4,h5,h6,h7,h8,h9,h10,h11,fun hh=>hi _ _ _ _ _ (h12 hh),h13,h14,h15,h16,h17,h18,h19,h20⟩
theorem rH (h:Core Good z p o r):Core Good z {p with ar:=p.ar+1} o r:=by
 obtain⟨h1,h2,h3,h4,h5,h6,h7,h8,h9,h10,h11,h12,h13,h14,h15,h16,h17,h18,h19,h20⟩:=h;exact⟨h1,Nat.le_succ_of_le h2,h3,Nat.le_succ_of_le h4,h5,h6,h7,h8,h9,h10,h11,h12,h13,h14,h15,h16,h17,h18,h19,h20⟩
theorem tK {l:Lt M} (h:LOK p o r l):LOK {p with ar:=p.ar+1} o r l:=by
 cases l<;>exact h
theorem pv (h:Core Good z p o r) (safe goal:Nat) (hs:safe≤p.safe):Core Good z ⟨p.ar,p.s+1,safe,false,goal,0,[],z⟩ o r:=by
 obtain⟨h1,h2,h3,h4,h5,h6,h7,h8,h9,h10,h11,h12,h13,h14,h15,h16,h17,h18,h19,h20⟩:=h;refine⟨Nat.le_succ_of_le h1,h2,Gn hs h3,h4,h5,h6,h7,h8,h9,h10,h11,h12,h13,?_,?_,?_,?_,?_,?_,?_⟩<;>simp;intro h;omega
theorem si (hc:Core Good z p o r) (safe goal:Nat) {l:Lt M} (h:LOK p o r l):LOK ⟨p.ar,p.s+1,safe,false,goal,0,[],z⟩ o r l:=by
 have h1:=hc.ses;cases l with
 | dV => trivial
 | opn s => exact Nat.le_succ_of_le h
 | msg s k f => exact h
 | hav s x =>
  refine⟨h.1,fun e _=>?_⟩;have h2:=h.1;simp only at e;omega
 | gone s => exact h
 | ack s k => exact h
theorem vC (h:Core Good z p o r) (w:Nat) (g:List M) (d:H):Core Good z p ⟨o.back,o.sb,true,w,g,d⟩ r:=by
 obtain⟨h1,h2,h3,h4,h5,h6,h7,h8,h9,h10,h11,h12,h13,h14,h15,h16,h17,h18,h19,h20⟩:=h;refine⟨h1,h2,h3,h4,h5,h6,h7,h8,?_,?_,?_,h12,h13,h14,h15,h16,h17,h18,h19,h20⟩<;>simp
theorem yA (w:Nat) (g:List M) (d:H) {l:Lt M} (h:LOK p o r l):LOK p ⟨o.back,o.sb,true,w,g,d⟩ r l:=by
 cases l with
 | gone s => exact ⟨h.1, fun _ => rfl⟩
 | _ => exact h
theorem xR (h:Core Good z p o r) {s:Nat} (hs:s≤p.s) (hl:o.sb<s):Core Good z p ⟨o.back,s,false,0,[],z⟩ ⟨0,[],o.back,o.back,0,z,z⟩:=by
 have hk:p.known=false:=by
  cases e:p.known with
  | false => rfl
  | true => have := h.ET e; omega
 obtain⟨h1,h2,h3,h4,h5,h6,h7,h8,h9,h10,h11,h12,h13,h14,h15,h16,h17,h18,h19,h20⟩:=h;constructor<;>simp_all
theorem Bb {s:Nat} (hl:o.sb<s) {l:Lt M} (h:LOK p o r l):LOK p (⟨o.back,s,false,0,[],z⟩:Ot M H) ⟨0,[],o.back,o.back,0,z,z⟩ l:=by
 cases l with
 | dV => trivial
 | opn s => exact h
 | msg s' k f => have h1 := h.1; exact ⟨by simp only; omega, fun e => by simp only at e; omega⟩
 | hav s' x => have h1 := h.1; exact ⟨by simp only; omega, h.2⟩
 | gone s' => have h1 := h.1; exact ⟨by simp only; omega, fun e => by simp only at e; omega⟩
 | ack s' k => have h1 := h.1; exact ⟨by simp only; omega, fun e => by simp only at e; omega⟩
theorem uN:LOK p o r (.hav o.sb o.back):=⟨Gi _,fun _ _=>rfl⟩
theorem sh (h:o.bG=true):LOK p o r (.gone o.sb):=⟨Gi _,fun _=>h⟩
theorem oM (hc:Core Good z p o r) (h:o.bG=false):LOK p o r (.ack o.sb o.want):=⟨Gi _,fun _=>Nat.le_of_eq (hc.want h)⟩
theorem iH (h:Core Good z p o r) (hk:p.known=true) (hq:p.queue=[]):r.j=r.ms.length∧p.base=r.bu+r.j∧o.back=p.goal:=by
 have h1:=h.nK hk;have h2:=h.nM hk;have h3:=h.jl;rw[hq] at h2;have h4:r.ms.length≤p.base-r.bu:=List.drop_eq_nil_iff.mp h2.symm;have h5:r.j=r.ms.length:=by omega
 exact⟨h5,by omega,by rw[h.behind h5,h.Cv hk]⟩
theorem vD (h:Core Good z p o r) (hk:p.known=true) (hq:p.queue=[]):Core Good z {p with safe:=p.goal} o r:=by
 have hb:=(iH h hk hq).2.2;obtain⟨h1,h2,h3,h4,h5,h6,h7,h8,h9,h10,h11,h12,h13,h14,h15,h16,h17,h18,h19,h20⟩:=h;exact⟨h1,h2,Nat.le_of_eq hb.symm,h4,h5,h6,h7,h8,h9,h10,h11,h12,h13,h14,h15,h16,h17,h18,h19,h20⟩
theorem yC (x:Nat) {l:Lt M} (h:LOK p o r l):LOK {p with safe:=x} o r l:=by
 cases l<;>exact h
theorem AA (h:Core Good z p o r) {x:Nat} (hk:p.known=false) (hl:LOK p o r (.hav p.s x)):Core Good z {p with known:=true,goal:=x} o r∧o.sb=p.s∧x=o.back:=by
 have e1:o.sb=p.s:=Nat.le_antisymm h.ses hl.1;have e2:x=o.back:=hl.2 rfl hk;obtain⟨e3,e4,e5⟩:=h.EZ hk e1;obtain⟨e6,e7,e8⟩:=h.nU hk;have e9:r.j=0:=by have:=h.jl;rw[e3] at this;simpa using this
 have e10:o.back=r.to_:=h.behind (by rw[e9,e3];rfl);obtain⟨h1,h2,h3,h4,h5,h6,h7,h8,h9,h10,h11,h12,h13,h14,h15,h16,h17,h18,h19,h20⟩:=h;refine⟨⟨h1,h2,h3,h4,h5,h6,h7,h8,h9,h10,h11,h12,h13,fun _=>e1,fun _=>?_,fun _=>?_,fun _=>?_,fun _=>?_,?_,?_⟩,e1,e2⟩
 ·simp only[e7,e4,e9];omega
 ·simp only[e6,e3,List.drop_nil]
 ·simp only[e2,e10]
 ·simp only[e8,e5]
 ·intro hh;simp at hh
 ·intro hh;simp at hh
theorem yB (x:Nat) {l:Lt M} (h:LOK p o r l):LOK {p with known:=true,goal:=x} o r l:=by
 cases l with
 | hav s y => exact ⟨h.1, fun _ hh => by simp at hh⟩
 | _ => exact h
theorem Az (h:Core Good z p o r) {g:Nat} (hk:p.known=true) (hg:p.base+g≤r.bu+r.j):Core Good z {p with base:=p.base+g,queue:=p.queue.drop g} o r:=by
 have e1:=h.nK hk;have e2:=h.nM hk;obtain⟨h1,h2,h3,h4,h5,h6,h7,h8,h9,h10,h11,h12,h13,h14,h15,h16,h17,h18,h19,h20⟩:=h;refine⟨h1,h2,h3,h4,h5,h6,h7,h8,h9,h10,h11,h12,h13,h14,fun _=>?_,fun _=>?_,h17,h18,fun hh=>?_,h20⟩
 ·simp only;omega
 ·simp only[e2,List.drop_drop]
  congr 1
  omega
 ·simp only[hk] at hh;simp at hh
theorem yy (b:Nat) (q:List M) {l:Lt M} (h:LOK p o r l):LOK {p with base:=b,queue:=q} o r l:=by
 cases l<;>exact h
theorem vE (h:Core Good z p o r) (hk:p.known=true) (hq:p.queue=[]) (hg:p.goal<p.ar) {ms:List M} (hm:ms≠[]) (h4:ms.length≤4) {d:H} (hgood:Good p.goal p.had ms p.ar d) :
 Core Good z {p with goal:=p.ar,queue:=ms,had:=d} o ⟨p.base,ms,p.goal,p.ar,0,p.had,d⟩:=by
 obtain⟨e1,e2,e3⟩:=iH h hk hq;have e4:0<ms.length:=List.length_pos_iff.mpr hm;have ek:=h.ES hk;obtain⟨h1,h2,h3,h4',h5,h6,h7,h8,h9,h10,h11,h12,h13,h14,h15,h16,h17,h18,h19,h20⟩:=h;refine⟨h1,h2,h3,Gi _,h4,Nat.zero_le _,fun _=>e3,fun hh=>?_,fun hf=>?_,fun hf=>?_,fun hf=>?_,fun _=>hgood,fun _=>hg,h14,fun _=>?_,fun _=>?_,fun _=>rfl,fun _=>rfl,fun hh=>?_,fun hh=>?_⟩
 ·simp only at hh;omega
 ·simp only;rw[h9 hf,e2];omega
 ·rw[h10 hf,if_pos e1]
  simp only[List.take_zero];split<;>rfl
 ·rw[h11 hf,if_pos e1,ek,if_neg (by simp only;omega)]
 ·simp only;omega
 ·simp only[Nat.sub_self,List.drop_zero]
 ·simp only[hk] at hh;simp at hh
 ·simp only[hk] at hh;simp at hh
theorem yD (h:Core Good z p o r) (hk:p.known=true) (hq:p.queue=[]) (ms:List M) (d:H) {l:Lt M} (hl:LOK p o r l):LOK {p with goal:=p.ar,queue:=ms,had:=d} o ⟨p.base,ms,p.goal,p.ar,0,p.had,d⟩ l:=by
 obtain⟨e1,e2,e3⟩:=iH h hk hq;cases l with
 | msg s k f =>
  refine⟨hl.1,fun e=>?_⟩;have h1:=(hl.2 e).1;simp only;exact⟨by omega,fun hh=>by omega⟩
 | ack s k =>
  refine⟨hl.1,fun e=>?_⟩;have h1:=hl.2 e;simp only;omega
 | _ => exact hl
theorem Dc:LOK p o r (.opn p.s):=Gi _
theorem uO (h:Core Good z p o r) (hk:p.known=true) {i:Nat} {f:M} (hi:p.queue[i]?=some f):LOK p o r (.msg p.s (p.base+i) f):=by
 have h1:=h.nK hk;have h2:=h.nM hk;have h3:=h.ET hk;rw[h2,List.getElem?_drop] at hi;have h4:p.base-r.bu+i<r.ms.length:=(Gh.mp hi).1;refine⟨Nat.le_of_eq h3.symm,fun _=>⟨by omega,fun _=>?_⟩⟩;rw[show p.base+i-r.bu=p.base-r.bu+i by omega];exact hi
theorem wanted (h:Core Good z p o r) (hf:o.bG=false) {f:M} (hl:LOK p o r (.msg o.sb o.want f)):r.ms[r.j]?=some f∧r.j<r.ms.length:=by
 have h1:=h.want hf;obtain⟨h2,h3⟩:=hl.2 rfl;have h4:=h3 (by omega);rw[h1] at h2 h4;exact⟨by rw[←h4];congr 1;omega,by omega⟩
theorem xT (h:Core Good z p o r) (hf:o.bG=false) {f:M} (hm:r.ms[r.j]?=some f) (hj:r.j+1<r.ms.length) :
 Core Good z p {o with want:=o.want+1,got:=o.got++[f]} {r with j:=r.j+1}:=by
 obtain⟨h1,h2,h3,h4,h5,h6,h7,h8,h9,h10,h11,h12,h13,h14,h15,h16,h17,h18,h19,h20⟩:=h;refine⟨h1,h2,h3,h4,h5,by simp only;omega,fun _=>h7 (by omega),fun hh=>?_,fun _=>?_,fun _=>?_,fun _=>?_,h12,h13,h14,fun hk=>?_,h16,h17,h18,h19,h20⟩
 ·simp only at hh;omega
 ·simp only;rw[h9 hf];omega
 ·simp only
  rw[h10 hf,if_neg (by omega),if_neg (by omega),List.take_add_one,hm];rfl
 ·simp only
  rw[h11 hf,if_neg (by omega),if_neg (by omega)]
 ·have:=h15 hk
  simp only;omega
theorem xS (h:Core Good z p o r) (hf:o.bG=false) (hj:r.j+1=r.ms.length) :
 Core Good z p {o with back:=r.to_,want:=o.want+1,got:=[],had:=r.eL} {r with j:=r.j+1}:=by
 have hne:r.ms≠[]:=by intro e;rw[e] at hj;simp at hj
 obtain⟨h1,h2,h3,h4,h5,h6,h7,h8,h9,h10,h11,h12,h13,h14,h15,h16,h17,h18,h19,h20⟩:=h;have e1:=h7 (by omega);have e2:=h13 hne;refine⟨h1,h4,by simp only;omega,h4,h5,by simp only;omega,fun hh=>?_,fun _=>rfl,fun _=>?_,fun _=>?_,fun _=>?_,h12,h13,h14,fun hk=>?_,h16,h17,h18,h19,h20⟩
 ·simp only at hh;omega
 ·simp only;rw[h9 hf];omega
 ·simp only;rw[if_pos hj]
 ·simp only;rw[if_pos hj]
 ·have:=h15 hk
  simp only;omega
theorem Be {l:Lt M} (hl:LOK p o r l) (w:Nat) (g:List M):LOK p {o with want:=w,got:=g} {r with j:=r.j+1} l:=by
 cases l with
 | ack s k => exact ⟨hl.1, fun e => Nat.le_succ_of_le (hl.2 e)⟩
 | _ => exact hl
theorem Bc (h:Core Good z p o r) (hj:r.j+1=r.ms.length) {l:Lt M} (hl:LOK p o r l) (w:Nat) (g:List M) (d:H):LOK p {o with back:=r.to_,want:=w,got:=g,had:=d} {r with j:=r.j+1} l:=by
 cases l with
 | ack s k => exact ⟨hl.1, fun e => Nat.le_succ_of_le (hl.2 e)⟩
 | hav s x =>
  refine⟨hl.1,fun e hk=>?_⟩;have e1:o.sb=p.s:=Nat.le_antisymm h.ses (by rw[←e];exact hl.1);have e2:=(h.EZ hk e1).1;rw[e2] at hj;simp at hj
 | _ => exact hl
end Mx.Mir
end
section

namespace Mx.Mir
variable {M H:Type}
def bQ (p:Fs M H):Fs M H:=if p.known=true∧p.queue.length=0 then {p with safe:=p.goal} else p
def fv (b x n:Nat):Nat:=if b≤x∧x≤b+min n 4 then x-b else 0
def rV (z:H) (o:Ot M H) (s:Nat):Ot M H:=⟨o.back,s,false,0,[],z⟩
def none_ (z:H) (o:Ot M H):Rc M H:=⟨0,[],o.back,o.back,0,z,z⟩
def opened (z:H) (p:Fs M H):Fs M H:=⟨p.ar,p.s+1,p.safe,false,p.goal,0,[],z⟩
def ev (z:H) (p:Fs M H) (o:Ot M H) (r:Rc M H):Lt M→Fs M H × Ot M H × Rc M H × Option (Lt M)
 | .dV => (p, o, r, none)
 | .opn s => if s < o.sb then (p, o, r, none) else if o.sb < s then (p, rV z o s, none_ z o, some (.hav s o.back)) else if o.bG = true then (p, o, r, some (.gone o.sb)) else (p, o, r, some (.hav o.sb o.back))
 | .msg s k f => if s ≠ o.sb then (p, o, r, none) else if o.bG = true then (p, o, r, some (.gone o.sb)) else if k ≠ o.want then (p, o, r, some (.ack o.sb o.want))
  else if r.j+1=r.ms.length then (p,{o with back:=r.to_,want:=o.want+1,got:=[],had:=r.eL},{r with j:=r.j+1},some (.ack o.sb (o.want+1)))
  else (p,{o with want:=o.want+1,got:=o.got++[f]},{r with j:=r.j+1},some (.ack o.sb (o.want+1)))
 | .hav s x => if s = p.s ∧ p.known = false then (bQ { p with known := true, goal := x }, o, r, none) else (bQ p, o, r, none)
 | .gone s => if s = p.s then (opened z p, o, r, none) else (bQ p, o, r, none)
 | .ack s k => if s = p.s then (bQ { p with base := p.base + fv p.base k p.queue.length, queue := p.queue.drop (fv p.base k p.queue.length) }, o, r, none) else (bQ p, o, r, none)
variable {Good:Nat→H→List M→Nat→H→Prop} {z:H} {p:Fs M H} {o:Ot M H} {r:Rc M H}
theorem kB (h:Core Good z p o r):Core Good z (bQ p) o r:=by
 unfold bQ;split
 ·next hh=>exact vD h hh.1 (List.length_eq_zero_iff.mp hh.2)
 ·exact h
theorem lE {l:Lt M} (h:LOK p o r l):LOK (bQ p) o r l:=by
 unfold bQ;split
 ·exact yC _ h
 ·exact h
theorem Aw (b x:Nat):fv b x 0=0:=by unfold fv;split<;>omega
def iT (Good:Nat→H→List M→Nat→H→Prop) (z:H) (p:Fs M H) (o:Ot M H) (r:Rc M H) (ls:List (Lt M)):Prop:=Core Good z p o r∧∀ l∈ls,LOK p o r l
theorem CY {ls:List (Lt M)} (hf:iT Good z p o r ls) {l:Lt M} (hl:LOK p o r l) :
 iT Good z (ev z p o r l).1 (ev z p o r l).2.1 (ev z p o r l).2.2.1 (ls++(ev z p o r l).2.2.2.toList):=by
 obtain⟨hc,hls⟩:=hf;have same:∀ l',LOK p o r l'→iT Good z p o r (ls++[l']):=by
  intro l' h';refine⟨hc,fun x hx=>?_⟩;rcases List.mem_append.mp hx with hx|hx
  ·exact hls x hx
  ·rw[List.mem_singleton.mp hx];exact h'
 have same0:iT Good z p o r (ls++[]):=by rw[List.append_nil];exact⟨hc,hls⟩
 have lrn:iT Good z (bQ p) o r (ls++[]):=by rw[List.append_nil];exact⟨kB hc,fun x hx=>lE (hls x hx)⟩
 cases l with
 | dV => exact same0
 | opn s =>
  unfold ev;by_cases h1:s<o.sb
  ·simp only[if_pos h1];exact same0
  ·simp only[if_neg h1]
   by_cases h2:o.sb<s
   ·simp only[if_pos h2]
    refine⟨xR hc hl h2,fun x hx=>?_⟩;rcases List.mem_append.mp hx with hx|hx
    ·exact Bb h2 (hls x hx)
    ·have hx':x=.hav s o.back:=by simpa using hx
     rw[hx'];exact uN (o:=rV z o s)
   ·simp only[if_neg h2]
    by_cases h3:o.bG=true
    ·simp only[if_pos h3];exact same _ (sh h3)
    ·simp only[if_neg h3];exact same _ uN
 | msg s k f =>
  unfold ev;by_cases h1:s≠o.sb
  ·simp only[if_pos h1];exact same0
  ·simp only[if_neg h1]
   have e1:s=o.sb:=Decidable.not_not.mp h1;by_cases h2:o.bG=true
   ·simp only[if_pos h2];exact same _ (sh h2)
   ·simp only[if_neg h2]
    have e2:o.bG=false:=by simpa using h2
    by_cases h3:k≠o.want
    ·simp only[if_pos h3];exact same _ (oM hc e2)
    ·simp only[if_neg h3]
     have e3:k=o.want:=Decidable.not_not.mp h3;rw[e1,e3] at hl;obtain⟨hm,hj⟩:=wanted hc e2 hl;by_cases h4:r.j+1=r.ms.length
     ·simp only[if_pos h4]
      have hc':=xS hc e2 h4;refine⟨hc',fun x hx=>?_⟩;rcases List.mem_append.mp hx with hx|hx
      ·exact Bc hc h4 (hls x hx) _ _ _
      ·have hx':x=.ack o.sb (o.want+1):=by simpa using hx
       rw[hx'];exact oM hc' e2
     ·simp only[if_neg h4]
      have hc':=xT hc e2 hm (by omega);refine⟨hc',fun x hx=>?_⟩;rcases List.mem_append.mp hx with hx|hx
      ·exact Be (hls x hx) _ _
      ·have hx':x=.ack o.sb (o.want+1):=by simpa using hx
       rw[hx'];exact oM hc' e2
 | hav s x =>
  unfold ev;by_cases h1:s=p.s∧p.known=false
  ·simp only[if_pos h1]
   rw[h1.1] at hl;have hc':=(AA hc h1.2 hl).1;refine⟨kB hc',fun y hy=>?_⟩;exact lE (yB _ (hls y (by simpa using hy)))
  ·simp only[if_neg h1];exact lrn
 | gone s =>
  unfold ev;by_cases h1:s=p.s
  ·simp only[if_pos h1]
   exact⟨pv hc _ _ (Gi _),fun y hy=>si hc _ _ (hls y (by simpa using hy))⟩
  ·simp only[if_neg h1];exact lrn
 | ack s k =>
  unfold ev;by_cases h1:s=p.s
  ·simp only[if_pos h1]
   have e1:o.sb=p.s:=Nat.le_antisymm hc.ses (by rw[←h1];exact hl.1);have e2:=hl.2 (by rw[h1,e1]);cases hk:p.known with
   | true =>
    have hb:=hc.nK hk;have hg:p.base+fv p.base k p.queue.length≤r.bu+r.j:=by unfold fv;split<;>omega
    have hc':=Az hc hk hg;rw[hk] at hc';exact⟨kB hc',fun y hy=>lE (by have:=yy (p.base+fv p.base k p.queue.length) (p.queue.drop (fv p.base k p.queue.length)) (hls y (by simpa using hy));rw[hk] at this;exact this)⟩
   | false =>
    obtain⟨q1,q2,q3⟩:=hc.nU hk;have hq:p.queue.length=0:=by rw[q1];rfl
    rw[hq,Aw,Nat.add_zero,List.drop_zero];have e:({p with known:=false}:Fs M H)=p:=by rw[←hk]
    have lrn':=lrn;rw[←e] at lrn';exact lrn'
  ·simp only[if_neg h1];exact lrn
end Mx.Mir
end
section

namespace Mx.Mir
variable {M H:Type}
variable {Good:Nat→H→List M→Nat→H→Prop} {z:H} {p:Fs M H} {o:Ot M H} {r:Rc M H}
def cS (s:Nat):Nat→List M→List (Lt M)
 | _, [] => []
 | b, f :: fs => .msg s b f :: cS s (b + 1) fs
theorem ji {s:Nat}:∀ {b:Nat} {fs:List M} {l:Lt M},l∈cS s b fs→∃ i f,fs[i]?=some f∧l=.msg s (b+i) f
 | _, [], _, h => by simp [cS] at h
 | b, f :: fs, l, h => by
  simp only[cS,List.mem_cons] at h;rcases h with h|h
  ·exact⟨0,f,rfl,h⟩
  ·obtain⟨i,g,h1,h2⟩:=ji h
   exact⟨i+1,g,h1,by rw[h2];congr 1;omega⟩
end Mx.Mir
end
section

namespace Mx.Mir
variable {M H:Type} {Good:Nat→H→List M→Nat→H→Prop} {z:H} {p:Fs M H} {o:Ot M H} {r:Rc M H}
def Kn (p:Fs M H):Prop:=p.known=true→p.queue=[]→p.safe=p.goal
theorem mP (p:Fs M H):Kn (bQ p):=by
 intro h1 h2;unfold bQ at h1 h2 ⊢;by_cases h:p.known=true∧p.queue.length=0
 ·rw[if_pos h]
 ·rw[if_neg h] at h1 h2
  exact absurd ⟨h1,by rw[h2];rfl⟩ h
theorem vX (h:p.known=false):Kn p:=by intro h1;rw[h] at h1;cases h1
theorem Ft (h:Kn p) (l:Lt M):Kn (ev z p o r l).1:=by
 cases l with
 | dV => exact h
 | opn s =>
  simp only[ev];split
  ·exact h
  ·split
   ·exact h
   ·split<;>exact h
 | msg s k f =>
  simp only[ev];split
  ·exact h
  ·split
   ·exact h
   ·split
    ·exact h
    ·split<;>exact h
 | hav s x => simp only [ev]; split <;> exact mP _
 | gone s =>
  simp only[ev];split
  ·exact vX rfl
  ·exact mP _
 | ack s k => simp only [ev]; split <;> exact mP _
theorem uD (l:Lt M):(ev z p o r l).1.ar=p.ar:=by
 have hl:∀ q:Fs M H,(bQ q).ar=q.ar:=by intro q;unfold bQ;split<;>rfl
 cases l with
 | dV => rfl
 | opn s =>
  simp only[ev];split
  ·rfl
  ·split
   ·rfl
   ·split<;>rfl
 | msg s k f =>
  simp only[ev];split
  ·rfl
  ·split
   ·rfl
   ·split
    ·rfl
    ·split<;>rfl
 | hav s x => simp only [ev]; split <;> simp [hl]
 | gone s =>
  simp only[ev];split
  ·rfl
  ·exact hl p
 | ack s k => simp only [ev]; split <;> simp [hl]
inductive jE (Good:Nat→H→List M→Nat→H→Prop) (p:Fs M H) (r:Rc M H):Fs M H→Rc M H→List (Lt M)→Prop where
 | opn : p.known = false → jE Good p r p r [.opn p.s]
 | again : p.known = true → p.queue ≠ [] ∨ p.ar ≤ p.goal → jE Good p r p r (cS p.s p.base p.queue)
 | offer {ms : List M} {d : H} : p.known = true → p.queue = [] → p.goal < p.ar → ms ≠ [] → ms.length ≤ 4 → Good p.goal p.had ms p.ar d →
  jE Good p r {p with goal:=p.ar,queue:=ms,had:=d} ⟨p.base,ms,p.goal,p.ar,0,p.had,d⟩ (cS p.s p.base ms)
theorem zY {ls:List (Lt M)} (hf:iT Good z p o r ls) {p':Fs M H} {r':Rc M H} {l:List (Lt M)} (h:jE Good p r p' r' l):iT Good z p' o r' (ls++l):=by
 cases h with
 | opn hk =>
  refine⟨hf.1,fun x hx=>?_⟩;rcases List.mem_append.mp hx with hx|hx
  ·exact hf.2 x hx
  ·rw[List.mem_singleton.mp hx];exact Dc
 | again hk _ =>
  refine⟨hf.1,fun x hx=>?_⟩;rcases List.mem_append.mp hx with hx|hx
  ·exact hf.2 x hx
  ·obtain⟨i,f,h1,rfl⟩:=ji hx
   exact uO hf.1 hk h1
 | offer hk hq hg hm h4 hgood =>
  rename_i ms d;have hc:=vE hf.1 hk hq hg hm h4 hgood;refine⟨hc,fun x hx=>?_⟩;rcases List.mem_append.mp hx with hx|hx
  ·exact yD hf.1 hk hq ms d (hf.2 x hx)
  ·obtain⟨i,f,h1,rfl⟩:=ji hx
   exact uO (p:={p with goal:=p.ar,queue:=ms,had:=d}) hc hk h1
theorem DZ (h:Kn p) {p':Fs M H} {r':Rc M H} {l:List (Lt M)} (hs:jE Good p r p' r' l):Kn p':=by
 cases hs with
 | opn hk => exact h
 | again hk _ => exact h
 | offer hk hq hg hm h4 hgood => intro _ h2; exact absurd h2 hm
theorem qq {p':Fs M H} {r':Rc M H} {l:List (Lt M)} (hs:jE Good p r p' r' l):p'.ar=p.ar:=by cases hs<;>rfl
end Mx.Mir
end
end Go.Proofs.YtbicgjafjjihdaaGreatDoor
