import Derived.Test.YtgklbhiamepfoaaGreatDoorZ24
import Derived.Test.YtgklbhiamepfoaaGreatDoorZ25
set_option maxHeartbeats 16000000
set_option maxRecDepth 100000
namespace Go.Proofs.YtgklbhiamepfoaaGreatDoor
open Go renaming Calls->C_
open Go.RowKit renaming Hid->H_
open Go.Proofs.Tryz Mx
variable {w v z:World}{n g k m c j i h:Nat}{Z W:Nat->Prop}{X:List (List B8)}{V:Of_}{l M:List B8}{a q p:Option Addr}{U:List Pk}{u T O N L K:Value}{x y:Int}{S:Array Value}{R P:List Value}{Q:Pk}{J:TypeId}{I:Array Oper}{G:Oper}{F:Act}{E:Exit->Act->World->Prop}{D B:Operand}{C:Option B8}{d:B8}
section
open Go.RowKit Go.ChangeMaps
def sR(w:World)(P:Nat)(v0 v1 v2 v3 v4 v5:Value):World:=(((((w.setCell ⟨P,0,none⟩ (v0)).setCell ⟨P,1,none⟩ (v1)).setCell ⟨P,2,none⟩ (v2)).setCell ⟨P,3,none⟩ (v3)).setCell ⟨P,4,none⟩ (v4)).setCell ⟨P,5,none⟩ (v5)
theorem rX:w.grownBy (sR w n u T O N L K) (some n):=ak (ak (ak (ak (ak (ak (au w) _ _) _ _) _ _) _ _) _ _) _ _
theorem yV(h:Bx w n S J)(hs:S.size=6):Bx (sR w n u T O N L K) n #[u,T,O,N,L,K] J:=by
 have h2:=(((((h.set 0 u).set 1 T).set 2 O).set 3 N).set 4 L).set 5 K;have e:((((((S.setIfInBounds 0 u).setIfInBounds 1 T).setIfInBounds 2 O).setIfInBounds 3 N).setIfInBounds 4 L).setIfInBounds 5 K)=#[u,T,O,N,L,K]:=by
  apply TW;intro i
  match i with
  |0|1|2|3|4|5=>simp[hs]
  |i+6=>
   rw[TQ (by simp[hs]),TQ (by simp)]
 rw[e] at h2;exact h2
structure OtB (B S:Nat->Prop) (w w':World) (O n:Nat) (ae:List (List B8)) (o:Of_) (N:Nat->Prop):Prop where
 new:∀b,N b->w.heap.size<=b
 mu:Mut (fun b=>S b\/N b) w'
 ot:OtW (fun b=>B b\/N b) (fun b=>S b\/N b) w' O n ae o
 ext:Ex B w w'
theorem tQ(J:Mut W w)(i:Bx w k S 226)(P:S[0]?=(g,0))(I:S[1]?=Zb (n:Int))(O:S.size=6)(hbl:X[m]?=l)(E:Nd W w g n l (m:Int) (c:Int))(C:Z k)(G:∀b,Z b->W b):
 C_ prog 124 #[(k,0)] w λf w'=>f=Zv Zn/\H_ (∃T,OtB Z W w w' k n X ⟨m,c,true,2147483647,[],[]⟩ T):=by
 have x0:w.cell? k=(g,0):=(i.cell 0).trans P;have x1:w.cell? (k,1)=Zb (n:Int):=(i.cell 1).trans I;have q:=Y i;have HM:=Y J;have K:=Y O;have ag:=Y hbl;have af:=Y E;clear i J P I O hbl E;go_enter func124,ntmps124;go_wp2_with fail;refine(sj HM af).mono ?_;rintro f w1 ⟨d,rfl,H,E1⟩;clear x0 x1;have⟨W2,p⟩:=ZX (w1.alloc (.cells #[(d,0),n] 219));have y:=bxA p;have D:=beA p;have N:=Y (H.later D);have F2:=Y (E1.t D);go_upto_region 2 with fail;rw[<-p];have⟨o,B⟩:=y.pair;go_upto_region 4 with fail;go_wp2_with fail;refine(gE N.2.2).mono ?_;rintro f t ⟨rfl,v⟩;have B3:=Y (y.later v y.lt);have F:=Y (N.later v);have L:=Y (F2.t v);clear o B;have⟨o,B⟩:=B3.pair;have s:=Y (q.later L q.lt);have⟨A,h⟩:=ZX (sR t k (d,0) (Zb (n:Int)) (Zb (c:Int)) (Zb 2147483647) Zs Zs);have G7:H_ (t.grownBy A (some k)):=(by rw[h];exact rX);have r:=Y (Ex.one G7);have Q:H_ (Obx A k d n (c:Int) 2147483647 none 0 0 none 0 0):=(by rw[h];exact yV s K);have ai:k<w:=q.lt;have ah:w<=d:=H.1;have R:d≠k:=by omega
 have U:=Y (F.2.1.eW r Q iz);have V7:=Y (F.2.2.ext r (λb a=>.inl (by rw[a];exact G _ C)) R);have ab:=s.frozen;have e:∀j,j<6->∃ad,t.cell? (k,j)=some ad:=λj hj=>⟨_,(s.cell j).trans (Array.getElem?_eq_getElem (by rw[K];exact hj))⟩
 have⟨o0,p0⟩:=e 0 (by omega);have⟨o1,p1⟩:=e 1 (by omega);have⟨o2,p2⟩:=e 2 (by omega);have⟨o3,p3⟩:=e 3 (by omega);have⟨o4,p4⟩:=e 4 (by omega);have⟨o5,p5⟩:=e 5 (by omega);unfold sR at h;go_upto_region 7 with fail;go_upto_region 8 with fail;rw[<-h];clear o B ab p0 p1 p2 p3 p4 p5;go_wp2;have V:=Y (show Ex Z w A from(Ex.below L).chain r (λb _ f=>by rw[f];exact C));exact UM (by simp[results,results124,go_sem]) rfl ⟨rfl,⟨λb=>b=d,⟨λb a=>by omega,U,⟨d,none,0,0,none,0,0,Q,⟨⟨l,ag,V7⟩,Ino.nil _ _,OJ _,BLo.nil _ _,OJ _,rfl⟩,.inl C,.inr rfl,λb a=>by
  rcases a with a|a
  ·exact .inl (G b a)
  ·exact .inr a⟩,V⟩⟩⟩
theorem wJ(C:Mut Z w)(h1:1<=n)(h2:n<=32):
 C_ prog 114 #[n] w λq p=>∃O,q=Zr #[.pointer (some ⟨O,0,none⟩),Zn]/\H_ (∃N:Nat->Prop,(∀b,N b->w.heap.size<=b)/\Mut (λb=>Z b\/N b) p/\OtW N (λb=>Z b\/N b) p O n [List.replicate n zB] ⟨0,0,true,2147483647,[],[]⟩)/\H_ (OS w p):=by
 have F:=Y C;clear C;go_enter func114,ntmps114;go_wp2_with fail;refine(rD F h1 h2).mono ?_;rintro q I ⟨g,rfl,t,u⟩;have⟨A,j⟩:=ZX (I.alloc (.cells #[(g,0),n] 219));have L:=bxA j;have d:=beA j;go_upto_region 2 with fail;rw[<-j];have⟨D,R⟩:=L.pair;go_upto_region 4 with fail;have⟨x,s⟩:=ZX (A.alloc (.cells #[(g,0),n,Zi,Zi,Zs,Zs] 226));have i:=beA s;have r:=bxA s;have⟨P,h⟩:=ZX A.heap.size;rw[<-h] at r;have G:=Y ((t.later d).later i);have y:=Y (show OS w x from(u.t d).trans (i.mono (OP u.size d.size)));have U:w<=P:=by have e:=h.o;have f:=u.size;have o:=d.size;omega
 have T:w<=g:=t.1;have z:(λb=>(Z b\/b=g)\/b=P)=(λb=>Z b\/(b=g\/b=P)):=funext λb=>propext or_assoc
 have E:H_ (Mut (λb=>Z b\/(b=g\/b=P)) x):=(by rw[<-z];exact G.2.1.add r (eA rfl));have M:=Y (show Nd (λb=>Z b\/(b=g\/b=P)) x g n (List.replicate n zB) ((0:Nat):Int) ((0:Nat):Int) by
  rw[<-z];have e:=(t.2.2.later d).wd (S':=λb=>(Z b\/b=g)\/b=P) ((Wd.refl _ _).add (by have f:=h.o;omega)) (.inl (.inr rfl));exact e.later i)
 go_upto_region 5 with fail;rw[<-s,<-h];clear D R;go_wp2_with fail;refine(tQ (Z:=λb=>b=g\/b=P) (X:=[List.replicate n zB]) E r rfl rfl rfl rfl M (.inr rfl) (λb a=>.inr a)).mono ?_;rintro q K ⟨rfl,S⟩;go_wp2;have⟨N,e,f,o,Q⟩:=S.o;have H:(λb=>(Z b\/(b=g\/b=P))\/N b)=(λb=>Z b\/((b=g\/b=P)\/N b)):=funext λb=>propext or_assoc
 rw[H] at f o;have J:OS w K:=y.trans ((Q.toBelow_of (B:=w) y.size (λb a=>by
  rcases a with a|a<;>omega)))
 exact UM (v:=.tuple #[.pointer (some ⟨P,0,none⟩),.nilIface]) (by simp[results,Tryz.results114,go_sem]) rfl ⟨P,rfl,Y ⟨λb=>(b=g∨b=P)∨N b,λb a=>by
  rcases a with (a|a)|a
  ·omega
  ·omega
  ·exact OP y.o.size (e b a),f,o⟩,Y J⟩
theorem Mx.Ih{k x:Int}(a:0<=k/\k<=15)(b:0<=x/\x<=2147483647):may k [x] 0=0:=by
 unfold may;rw[UX (by omega),UX (by simp),UX];simp[bH];omega
theorem Mx.AX{k:Int}(b:0<=k/\k<=15)(c:0<=x/\x<=2147483647)(a:0<=y/\y<=2147483647):may k [x,y] 0=0:=by
 unfold may;rw[UX (by omega),UX (by simp),UX];simp[bH];omega
end
section
open Go.RowKit Go.ChangeMaps
def ft(o:Of_)(s:Nat):Of_:=if o.sb<s then⟨o.back,s,false,0,[],[]⟩ else o
def fM(o:Of_)(s:Nat):Option (List Int):=if s<o.sb then none else if o.sb<s then some (bF 3 [(s:Int),(o.back:Int)] 0 []) else if o.bd=true then some (bF 4 [(s:Int)] 0 []) else some (bF 3 [(s:Int),(o.back:Int)] 0 [])
theorem OtD.step(h:OtD Z W w v g n X V)(a:OS v z):OtD Z W w z g n X V:=⟨h.mu.later a,h.ot.later a,h.ext.trans (Ex.below a)⟩
theorem yt(f:Mut W w)(a:OtW Z W w g n X V)(h:k<V.sb):
 C_ prog 196 #[(g,0),k] w λm b=>∃v,m=Zr #[v,Zn]/\H_ (OtD Z W w b g n X (ft V k))/\H_ (dN W b v (fM V k)):=by
 have c:ft V k=V:=by unfold ft;rw[UX (by omega)]
 have e:fM V k=none:=by unfold fM;rw[UY h]
 rw[c,e];have i:=Y f;have l:=Y a;have⟨y,s,t,u,B,x,hc,d⟩:=a;have⟨r,p,A,j,q,o⟩:=d.bx.cells;have hd:decide ((k:Int)<(V.sb:Int))=true:=by simpa using h
 have z:decide (k<V.sb)=true:=by simpa using h
 clear d f h c e r p j q o;go_enter func196,ntmps196;go_wp2;exact UM (by simp[results,results196,go_sem]) rfl ⟨_,rfl,(OtD.same i l (ce _ _)),Y rfl⟩
theorem Bg(y:Mut W w)(B:OtW Z W w g n X V)(A:k=V.sb)(d:V.bd=true)(hs:(k:Int)<=2147483647)(_:(V.back:Int)<=2147483647):
 C_ Tryz.prog 196 #[.pointer (some ⟨g,0,none⟩),.int .i64 (k:Int)] w λe o=>∃v,e=.returned (.tuple #[v,.nilIface])∧H_ (OtD Z W w o g n X (ft V k))∧H_ (dN W o v (fM V k)):=by
 have q:ft V k=V:=by unfold ft;rw[UX (by omega)]
 have t:fM V k=some (bF 4 [(k:Int)] 0 []):=by unfold fM;rw[UX (by omega),UX (by omega),UY d]
 rw[q,t];have F:=Y y;have Q:=Y B;have⟨ad,na,nn,nc,ha,hn,hc,b⟩:=B;have⟨J,I,f,O,T,R⟩:=b.bx.cells;have⟨bl,hbl,l⟩:=b.r.nd;have ab:=Y l;have D:((V.want:Int)==2147483647)=true:=by
  have h1:=b.r.fg;rw[d] at h1;have h2:=UT h1.symm;simp;omega
 rw[<-A] at f;have m:=Y b;clear b y hbl l A d q t I T R;go_enter func196,ntmps196;go_wp2_with fail;refine(gE ab).mono ?_;rintro e h ⟨rfl,i⟩;have G:=Y (m.later i);have H:=(i.o.cell (p:=⟨g,2,none⟩) (Bx.lt m.o.bx)).trans f;have s:=G.bx.cells.2.2.2.1;have r:=Y (OtD.same F Q i);clear J f O;go_wp2_with fail;refine(gj s D).mono ?_;rintro e wz ⟨rfl,z⟩;obtain rfl:=z.symm;clear z H s D;have⟨N,j⟩:=ZX (h.alloc (.cells #[k] 3));have C:=beA j;have E:H_ (aD N (some ⟨h,0,none⟩) 1 [(k:Int)]):=(by rw[j];exact kB h [(k:Int)] (by simp) (by simp));go_wp2_with fail;rw[<-j];refine(kD 1 E (Ih (k:=4) (by omega) ⟨by omega,by omega⟩)).mono ?_;rintro e w6 ⟨v,rfl,P,S⟩;have U:=Y (C.t S);go_wp2_with fail;exact UM (v:=.tuple #[v,.nilIface]) (by simp[results,Tryz.results196,go_sem]) rfl ⟨v,rfl,Y (OtD.step r.o U.o),Y (dN.of P.o (r.o.mu.later C.o) (OJ _) (eL) (fR (ir w) (Ih (k:=4) (by omega) ⟨by omega,by omega⟩)))⟩
theorem Bh(y:Mut W w)(B:OtW Z W w g n X V)(A:k=V.sb)(d:V.bd=false)(hs:(k:Int)<=2147483647)(hb:(V.back:Int)<=2147483647):
 C_ Tryz.prog 196 #[.pointer (some ⟨g,0,none⟩),.int .i64 (k:Int)] w λe o=>∃v,e=.returned (.tuple #[v,.nilIface])∧H_ (OtD Z W w o g n X (ft V k))∧H_ (dN W o v (fM V k)):=by
 have q:ft V k=V:=by unfold ft;rw[UX (by omega)]
 have t:fM V k=some (bF 3 [(k:Int),(V.back:Int)] 0 []):=by unfold fM;rw[UX (by omega),UX (by omega),UX (by simp[d])]
 rw[q,t];have F:=Y y;have Q:=Y B;have⟨ad,na,nn,nc,ha,hn,hc,b⟩:=B;have⟨J,I,f,O,T,R⟩:=b.bx.cells;have⟨bl,hbl,l⟩:=b.r.nd;have ab:=Y l;have D:((V.want:Int)==2147483647)=false:=by
  have h1:=b.r.fg;rw[d] at h1;have h2:=of_decide_eq_false h1.symm;simp;omega
 rw[<-A] at f;have m:=Y b;clear b y hbl l A d q t I T R;go_enter func196,ntmps196;go_wp2_with fail;refine(gE ab).mono ?_;rintro e h ⟨rfl,i⟩;have G:=Y (m.later i);have H:=(i.o.cell (p:=⟨g,2,none⟩) (Bx.lt m.o.bx)).trans f;have s:=G.bx.cells.2.2.2.1;have r:=Y (OtD.same F Q i);clear J f O;go_wp2_with fail;refine(gj s D).mono ?_;rintro e wz ⟨rfl,z⟩;obtain rfl:=z.symm;clear z H s D;have⟨N,j⟩:=ZX (h.alloc (.cells #[k,V.back] 3));have C:=beA j;have E:H_ (aD N (some ⟨h,0,none⟩) 2 [(k:Int),(V.back:Int)]):=(by rw[j];exact kB h [(k:Int),(V.back:Int)] (by simp) (by simp));go_wp2_with fail;rw[<-j];refine(kD 2 E (AX (k:=3) (by omega) ⟨by omega,by omega⟩ ⟨by omega,by omega⟩)).mono ?_;rintro e w6 ⟨v,rfl,P,S⟩;have U:=Y (C.t S);go_wp2_with fail;exact UM (v:=.tuple #[v,.nilIface]) (by simp[results,Tryz.results196,go_sem]) rfl ⟨v,rfl,Y (OtD.step r.o U.o),Y (dN.of P.o (r.o.mu.later C.o) (OJ _) (eL) (fR (ir w) (AX (k:=3) (by omega) ⟨by omega,by omega⟩ ⟨by omega,by omega⟩)))⟩
theorem yu(U:Mut W w)(ho:OtW Z W w g n X V)(h:V.sb<k)(hs:(k:Int)<=2147483647)(z:(V.back:Int)<=2147483647):
 C_ prog 196 #[(g,0),k] w λe P=>∃v,e=Zr #[v,Zn]/\H_ (OtD Z W w P g n X (ft V k))/\H_ (dN W P v (fM V k)):=by
 have R:ft V k=⟨V.back,k,false,0,[],[]⟩:=by unfold ft;rw[UY h]
 have T:fM V k=some (bF 3 [(k:Int),(V.back:Int)] 0 []):=by unfold fM;rw[UX (by omega),UY h]
 rw[R,T];have HM:=Y U;have⟨o,na,nn,nc,ha,hn,hc,f⟩:=ho;have⟨B,y,r,D,H,E⟩:=f.bx.cells;have⟨bl,hbl,J⟩:=f.r.nd;have ad:=Y J;have ag:=Y hbl;have b:=Y f;have O:=Y f.ne;have ai:decide ((k:Int)<(V.sb:Int))=false:=by simp;omega
 have ah:decide (k<V.sb)=false:=by simp;omega
 have ak:decide ((V.sb:Int)<(k:Int))=true:=by simp;omega
 have aj:decide (V.sb<k)=true:=by simp;omega
 clear f U hbl J h R T y D H E;go_enter func196,ntmps196;go_wp2_with fail;refine(gE ad).mono ?_;rintro e w1 ⟨rfl,m⟩;have Q:=Y (b.later m);have⟨y0,y1,y2,i,y4,y5⟩:=Q.bx.cells;clear B r y1 i y4 y5;go_wp2_with fail;refine(j6 (HM.later m) (ad.later m) 0 (PL.nil _) (λ_ h=>by simp at h) (ol _) (by omega) z (by omega) hs).mono ?_;rintro e p ⟨rfl,N2,G2,M2⟩;have N:=Y (Ex.one G2);have C:H_ (Obx p g o n (V.sb:Int) (V.want:Int) na nn nc ha hn hc):=Ex.bx N Q.bx O;have⟨d,l⟩:=ZX (sR p g (o,0) (Zb (n:Int)) (Zb (k:Int)) (Zb 0) Zs Zs);have G3:H_ (p.grownBy d (some g)):=(by rw[l];exact rX);have A:=Y (Ex.one G3);have s:H_ (Obx d g o n (k:Int) 0 none 0 0 none 0 0):=(by rw[l];exact yV C rfl);have M3:=Y (M2.eW A s iz);have V3:=Y (N2.ext A (λab z=>by rw[z];exact b.sub _ b.aO) (λe=>O e.symm));have S:=Y (show OtD Z W w d g n X ⟨V.back,k,false,0,[],[]⟩ from⟨M3,⟨o,none,0,0,none,0,0,s,⟨⟨bl,ag,V3⟩,Ino.nil _ _,OJ _,BLo.nil _ _,OJ _,rfl⟩,b.aO,b.ag,b.sub⟩,((Ex.below m).chain N (λab _ e=>by rw[e];exact b.ag)).chain A (λab _ e=>by rw[e];exact b.aO)⟩);clear y0 y2;have⟨B,y,r,D,H,E⟩:=C.cells;have af:=Bx.frozen C;unfold sR at l;go_upto_region 10 with fail;go_upto_region 11 with fail;rw[<-l];clear B y r D H E af;have i:=s.cells.2.2.2.1;go_wp2_with fail;refine(gj i (K:=false) (by decide)).mono ?_;rintro e wz ⟨rfl,hz⟩;obtain rfl:=hz.symm;clear hz i;have⟨W5,F⟩:=ZX (d.alloc (.cells #[k,V.back] 3));have D5:=beA F;have I5:H_ (aD W5 (some ⟨d,0,none⟩) 2 [(k:Int),(V.back:Int)]):=(by rw[F];exact kB d [(k:Int),(V.back:Int)] (by simp) (by simp));go_wp2_with fail;rw[<-F];refine(kD 2 I5 (AX (k:=3) (by omega) ⟨by omega,by omega⟩ ⟨by omega,by omega⟩)).mono ?_;rintro e w6 ⟨v,rfl,O6,E6⟩;have F6:=Y (D5.t E6);go_wp2_with fail;exact UM (by simp[results,results196,go_sem]) rfl ⟨v,rfl,(OtD.step S F6),(dN.of O6 (S.mu.later D5) (OJ _) (eL) (fR (ir w) (AX (k:=3) (by omega) ⟨by omega,by omega⟩ ⟨by omega,by omega⟩)))⟩
theorem Eu(b:Mut W w)(a:OtW Z W w g n X V)(hs:(k:Int)<=2147483647)(c:(V.back:Int)<=2147483647):
 C_ prog 196 #[(g,0),k] w λe d=>∃v,e=Zr #[v,Zn]/\H_ (OtD Z W w d g n X (ft V k))/\H_ (dN W d v (fM V k)):=by
 rcases Nat.lt_trichotomy k V.sb with h|h|h
 ·exact yt b a h
 ·cases hf:V.bd with
  |true=>exact Bg b a h hf hs c
  |false=>exact Bh b a h hf hs c
 ·exact yu b a h hs c
end
section
open Go.RowKit Go.ChangeMaps
theorem Bb(J:OtW Z W w g n X V)(T:V.back<k)(D:x=0)(S:n<=32):
 C_ Tryz.prog 255 #[.pointer (some ⟨g,0,none⟩),.agg #[.int .i64 x,.int .i64 (k:Int),.slice a m c]] w λt s=>∃B,t=.returned (.tuple #[.slice (some ⟨B,0,none⟩) n n,.nilIface])∧H_ (ay s w.heap.size (.slice (some ⟨B,0,none⟩) n n) (List.replicate n zB))∧H_ (OS w s):=by
 have⟨ad,na,nn,M,U,N,hc,e⟩:=J;have⟨ab,K,q⟩:=e.r.nd;have⟨W0,b⟩:=ZX (w.alloc (.cells #[x,k,(a,m,c)] 334));have z:=bxA b;have l:=beA b;have r:=Y (e.later l);have L:=Y (q.later l);subst D;clear K;have⟨I,hC,G⟩:=ia n (by omega);have⟨A,y,d,i,o,j⟩:=r.bx.cells;clear e q d i o j;have Q:decide ((k:Int)<=(V.back:Int))=false:=by simp;omega
 have P:decide (k<=V.back)=false:=by simp;omega
 go_enter func255,ntmps255;go_upto_region 1 with fail;rw[<-b];go_wp2_with fail;refine(gE L).mono ?_;rintro t f ⟨rfl,h⟩;have F:=Y (z.later h z.lt);have p:=Y (l.t h);have E:=Y (r.later h);have⟨O,b1,R⟩:=F.three;clear A y;have⟨A,y,d,i,o,j⟩:=E.bx.cells;clear d i o j;have C:=Y (G f w p.size);have H:=Y (show OS w (f.alloc (.cells I 65)) from p.o.alloc p.o.size _);go_wp2_with fail;exact UM (v:=.tuple #[.slice (some ⟨f.heap.size,0,none⟩) n n,.nilIface]) (by simp[results,Tryz.results255,go_sem]) rfl ⟨_,rfl,C,H⟩
theorem Ba(N:OtW Z W w g n X V)(ht:V.back<k)(H:x=(V.back:Int))(h0:x≠0)(hbl:X[V.back]?=l):
 C_ prog 255 #[(g,0),.agg #[x,k,(a,m,c)]] w λh v=>∃p,h=Zr #[.slice (some ⟨p,0,none⟩) n n,Zn]/\H_ (ay v w (.slice (some ⟨p,0,none⟩) n n) l)/\H_ (OS w v):=by
 have⟨ad,na,nn,P,ha,Q,hc,f⟩:=N;have⟨B,j,s⟩:=f.r.nd;have⟨W0,d⟩:=ZX (w.alloc (.cells #[x,k,(a,m,c)] 334));have z:=bxA d;have q:=beA d;have t:=Y (f.later q);have D:=Y (s.later q);have K:B=l:=by rw[hbl] at j;exact(OG j).symm
 subst K;subst H;have ab:((V.back:Int)==0)=false:=by simpa using h0
 have af:(V.back==0)=false:=by simp;omega
 clear j hbl h0;have⟨A,y,e,i,r,o⟩:=t.bx.cells;clear f s e i r o;have T:decide ((k:Int)<=(V.back:Int))=false:=by simp;omega
 have S:decide (k<=V.back)=false:=by simp;omega
 go_enter func255,ntmps255;go_upto_region 1 with fail;rw[<-d];go_wp2_with fail;refine(gE D).mono ?_;rintro h w1 ⟨rfl,b⟩;have J:=Y (z.later b z.lt);have C:=Y (q.t b);have I:=Y (t.later b);have⟨R,b1,U⟩:=J.three;clear A y;have⟨A,y,e,i,r,o⟩:=I.bx.cells;clear e i r o;go_wp2_with fail;refine(oR (D.later b)).mono ?_;rintro h G ⟨p,rfl,E,O⟩;have F:H_ (ay G w (.slice (some ⟨p,0,none⟩) n n) B):=World.ownsRow.mono E C.size;have L:=Y (C.t O);go_wp2_with fail;exact UM (by simp[results,results255,go_sem]) rfl ⟨_,rfl,F,L⟩
theorem Is(d:OtW Z W w g n X V)(b:V.back<k)(h:n<=32)(j:(x=0/\l=List.replicate n zB)\/(x=(V.back:Int)/\x≠0/\X[V.back]?=l)):
 C_ prog 255 #[(g,0),.agg #[x,k,(a,m,c)]] w λf e=>∃p,f=Zr #[.slice (some ⟨p,0,none⟩) n n,Zn]/\H_ (ay e w (.slice (some ⟨p,0,none⟩) n n) l)/\H_ (OS w e):=by
 rcases j with ⟨h1,rfl⟩|⟨h1,h2,i⟩
 ·exact Bb d (a:=a) (m:=m) (c:=c) b h1 h
 ·exact Ba d (a:=a) (m:=m) (c:=c) b h1 h2 i
end
section
open Go.RowKit
theorem EG(h1:w.ownsRow n k c u i R)(h2:w.ownsRow g m j T h P)(e:k≠m):u.ownBlock=none\/u.ownBlock≠T.ownBlock:=by
 rcases h1.2 with ⟨a,_⟩|⟨o,t,s,d,_,q,_⟩
 ·left;rw[a];rfl
 ·right;rcases h2.2 with ⟨a,_⟩|⟨p,v,x,f,_,b,_⟩
  ·rw[a,d];simp[Value.ownBlock]
  ·rw[d,f];intro l;have r:o=p:=OG l;subst r;rw[q] at b;cases b
   exact e rfl
theorem mR(h1:w.ownsRow n k c u i R)(h2:w.ownsRow g m j T h P)(a:k≠m)(b:w.grownBy v T.ownBlock):v.ownsRow n k c u i R:=
 World.ownsRow.kept h1 b (EG h1 h2 a)
theorem jL{rest:List Oper}(J:G.guard=none)(q:G.op=.call {callee:=.builtin .append,args:=#[D,B],argTypes:=#[224,224]})(b:Nat)(l:List Int)(j:bB w b (F.eval D) l)(z:Int)(y:F.eval B=(w,1,1))(N:l.length<=1000000)(K:b<=w)(p:∀e g a,bB a b (.slice (some e) (l.length+1) g) (l++[z])->w.grownBy a (F.eval D).ownBlock->wpList prog I E rest (F.put G.dst (.slice (some e) (l.length+1) g)) a):
 wpList prog I E (G::rest) F (w.alloc (.cells #[z] 3)):=by
 have⟨r,A,s,i,H⟩:=info_parts Tryz.info3;refine UN _ J D B 224 q b 3 r (Zb 0) 1 8 Tryz.underlying224 A s i H rfl (by decide) (F.eval D) l.length (l.map (Value.int .i64)) rfl (World.ownsRow.alloc j _) ⟨w,0,none⟩ 1 1 [Zb z] y (by simp) ?_ ?_ (by unfold maxLen;omega) (by omega) (by simp;omega) ?_
 ·intro v u d
  match v,d with
  |0,d=>simp at d;subst d;simp[Addr.add]
 ·intro u h;simp at h;subst h;rfl
 ·intro n a f c _;have o:bB a b n (l++[z]):=by
   unfold bB;rw[OC,le];exact f
  have C:w.grownBy a (F.eval D).ownBlock:=⟨c.os,c.tape,c.output,by have:=c.size;simp at this;omega,λk t x=>(c.block k (by simp;omega) x).trans (pi w _ k t)⟩;rcases f.2 with ⟨_,m⟩|⟨L,M,P,rfl,O,_⟩
  ·simp at m
  ·exact p _ _ a o C
theorem bt.nil(w:World)(a:Nat):bt w a Zs []:=t8 w a 123 9
def Nf(fn:Nat)(recv:Value)(a ah:Option Addr)(n nh:Nat)(peer had:List B8)(q:Pk):Prop:=∀W:World,BL W a n peer->BL W ah nh had->
 C_ Tryz.prog fn #[recv,.agg (Zp q.at_ q.kind q.from_ q.d)] W λe w'=>∃(d:B8) (ok:Bool),e=Zr #[d,Zl ok]/\H_ (d=(cR q peer had).getD zB/\ok=(cR q peer had).isSome)/\H_ (OS W w')
theorem JO:∃(d:B8) (a:Bool),vd C=.tuple #[d,Zl a]/\H_ (d=C.getD zB/\a=C.isSome):=by
 cases C with
 |none=>exact⟨zB,false,rfl,rfl,rfl⟩
 |some d=>exact⟨d,true,rfl,rfl,rfl⟩
theorem mD(h:C_ prog n #[u,.agg (Zp Q.at_ Q.kind Q.from_ Q.d)] w λe b=>e=Zv (vd (cR Q l M))/\OS w b):
 C_ prog n #[u,.agg (Zp Q.at_ Q.kind Q.from_ Q.d)] w λe b=>∃(d:B8) (a:Bool),e=Zr #[d,Zl a]/\H_ (d=(cR Q l M).getD zB/\a=(cR Q l M).isSome)/\H_ (OS w b):=by
 refine h.mono ?_;rintro e b ⟨rfl,c⟩;have⟨d,a,h1,h2⟩:=JO (C:=cR Q l M);exact⟨d,a,by rw[h1],h2,c⟩
theorem Hq(b f:Option Addr)(n d e a:Nat)(p o:List B8)(q:Pk)(h0:0<=q.kind)(r:q.kind<4):
 ∃ (i k : Nat) (v m : Value) (c : Nat), q.kind = (i : Int) /\ i < 4 /\ ((#[.iface 177 (.agg #[]), .iface 178 (b,n,d), .iface 178 (f,e,a), .iface 179 (.agg #[])] : Array Value)[i]? = some (.iface k v)) /\ (∀ W : World, (method 516 k v "stillwater/plan.hear").run prog W = .ok (c, m) W) /\ (∀ (j : Array Value) (W : World), (callFunc c j).run prog W = .ok (.enter c j) W) /\ H_ (Nf c m b f n e p o q) := by
 rcases(show q.kind=0\/q.kind=1\/q.kind=2\/q.kind=3 by omega) with hkd|hkd|hkd|hkd
 ·exact⟨0,177,.agg #[],.agg #[],280,hkd,by omega,rfl,λ_=>by kernel_rfl,λ_ _=>by kernel_rfl,λW _ _=>mD (by rw[Cd hkd];exact vU (W:=q) (w:=W))⟩
 ·exact⟨1,178,(b,n,d),(b,n,d),282,hkd,by omega,rfl,λ_=>by kernel_rfl,λ_ _=>by kernel_rfl,λW h _=>mD (by rw[Cc (by omega) (by omega) (by omega)];exact pg q d h)⟩
 ·exact⟨2,178,(f,e,a),(f,e,a),282,hkd,by omega,rfl,λ_=>by kernel_rfl,λ_ _=>by kernel_rfl,λW _ h=>mD (by rw[FE hkd];exact pg q a h)⟩
 ·exact⟨3,179,.agg #[],.agg #[],285,hkd,by omega,rfl,λ_=>by kernel_rfl,λ_ _=>by kernel_rfl,λW _ _=>mD (by rw[FF hkd];exact vT (W:=q) (w:=W))⟩
theorem Gi(h:Below (w.alloc (.cells () 65)).drew.heap.size (w.alloc (.cells () 65)).drew v):OS w v/\OT v w:=
 ⟨(af (v:=w) (P:=.cells () 65)).drew.trans (h.mono (by simp)),(Bx.dC w () 65).later h (by simp)⟩
theorem JP(h:Below w.drew.heap.size w.drew v):OS w v:=(ce w w).drew.trans h
theorem JQ(h:OT w g):OU (aV w g 0 d) g d:=by
 have a:=(((((((h.set 0 (Za d.z0)).set 1 (Za d.z1)).set 2 (Za d.z2)).set 3 (Za d.z3)).set 4 (Za d.z4)).set 5 (Za d.z5)).set 6 (Za d.z6)).set 7 (Za d.z7);simp only[sp,Eq,Do] at a;unfold aV;simp only[m9];exact a
theorem CC(E:QL w q m U)(hq:BL w a n l)(hh:BL w p k M)(hc:k<=j)(hn:n<=1000)(hm:m<=1000)(h0:gW n M=0)(hE:qE n U=0):
 C_ prog 256 #[(q,m,g),(a,n,c),(p,k,j)] w λN w'=>∃r c1 s c2,N=Zr #[.slice r (aR U l M).length c1,.slice s (eG U l M).length c2,Zn]/\H_ (bt w' w (.slice r (aR U l M).length c1) (aR U l M))/\H_ (bB w' w (.slice s (eG U l M).length c2) (eG U l M))/\H_ (OS w w'):=by
 have HH:=Y hh;have HP:=Y E;have HQ:=Y hq;have H0:=Y (show aJ (gW n M)=Zn by rw[h0];rfl);have aL:=Y hE;have H1:=Y (show aJ (qE n U)=Zn by rw[hE];rfl);clear hh E hq hE h0;go_enter func256,ntmps256;go_wp2_with fail;refine(nA a n c HH hc).mono ?_;rintro N w1 ⟨rfl,aq⟩;rw[H0];have B1:=Y aq;clear aq;go_wp2_with fail;refine(pM (c:=g) (HP.later B1) hn).mono ?_;rintro N w2 ⟨rfl,av⟩;rw[H1];have B2:=Y (B1.t av);clear av;go_wp2_with fail;refine(sg a p n c k j w2).mono ?_;rintro N e ⟨rfl,al⟩;have C:=Y (B2.t al);clear al;go_wp2_with fail;have K0:=Y (Bx.new e #[.iface 177 (.agg #[]),.iface 178 (a,n,c),.iface 178 (p,k,j),.iface 179 (.agg #[])] 141);have B4:=Y (C.alloc C.size (.cells #[.iface 177 (.agg #[]),.iface 178 (a,n,c),.iface 178 (p,k,j),.iface 179 (.agg #[])] 141));have⟨w4,aw⟩:=ZX (e.alloc (.cells #[.iface 177 (.agg #[]),.iface 178 (a,n,c),.iface 178 (p,k,j),.iface 179 (.agg #[])] 141))
 rw[<-aw] at K0 B4 ⊢;go_loopw [6,7,32] (λO aC ai wr=>∃(b F D:Nat) (r:Option Addr) (c1:Nat) (s:Option Addr) (c2:Nat),b<=m/\ai=Zb (b:Int)/\O=.slice r F c1/\aC=.slice s D c2/\H_ (F=(aR (U.take b) l M).length)/\H_ (D=(eG (U.take b) l M).length)/\H_ (bt wr (e+1) (.slice r F c1) (aR (U.take b) l M))/\H_ (bB wr (e+1) (.slice s D c2) (eG (U.take b) l M))/\H_ (Bx wr e #[.iface 177 (.agg #[]),.iface 178 (a,n,c),.iface 178 (p,k,j),.iface 179 (.agg #[])] 141)/\H_ (OS w wr)) (λ_ _ ai _=>m-(intOf ai).toNat)
 case atStart=>exact⟨0,0,0,none,0,none,0,by omega,rfl,rfl,rfl,Y (by simp[aR]),Y (by simp[eG]),bt.nil _ _,bB.nil _ _,K0,B4⟩
 case round=>
  obtain⟨b,F,D,r,c1,s,c2,K,rfl,rfl,rfl,J,hs,W,hI,hX,hB⟩:=hrel;by_cases au:b<m
  ·obtain⟨aU,aQ,d,rfl,hb,E,e0,i,h,e3,e4,e5,e6,e7,e8,e9,aA⟩:=(HP.later hB).at_ b au
   have HK:=Y E;have⟨ao,an,aj,ab⟩:=Nx aL E;clear E;have B:=Y (af (v:=wr) (P:=.cells (Zp d.at_ d.kind d.from_ d.d) 109));have H:H_ (Bx (wr.alloc (.cells (Zp d.at_ d.kind d.from_ d.d) 109)) wr d.arr 109):=Bx.new _ _ _;have ar:=hX.lt;go_wp2_with fail;have⟨v,aH⟩:=ZX (wr.alloc (.cells (Zp d.at_ d.kind d.from_ d.d) 109))
   rw[<-aH] at B H ⊢;have X5:=Y (hX.later B hX.lt);have O5:H_ (bt v (e+1) _ _):=aW W B;have I5:H_ (bB v (e+1) _ _):=aW hI B;have G:=Y (hB.t B);have g5:wr<v.heap.size:=H.lt;clear e0 i h e3 e4 e5 e6 e7 e8 e9 aA B;go_cut [12,13] (λaI az wx=>∃(ag:Nat) (f:B8) (A:Bool),aI=(ag,0)/\az=Zl A/\H_ (f=(cR d l M).getD zB/\A=(cR d l M).isSome)/\H_ (OU wx ag f)/\H_ (OS v wx))
   case first=>
    have⟨kd,ty,O,aN,fn,ae,aT,am,aS,aV,HC⟩:=Hq a p n c k j l M d aj ab;have xk:v.cell? (e,kd)=some (.iface ty O):=(X5.cell kd).trans am;have⟨q0,q1,q2,q3,q4,q5,q6,q7,q8,q9,aX⟩:=Bx.cE H;have aM:=Y ae;rw[ae] at q1;have aO:(kd:Int)<4:=by omega
    have aP:e<v.heap.size:=by omega
    have ay:=Y (λaK aG aE=>by have ak:=HC aK aG aE;rw[aM] at ak;exact ak);clear hb aj ab ao an K au ar ae am HC;go_region_with (
     refine(ay _ ?h1 ?h2).mono ?_
     (case h1=>first|exact(HQ.later G).later (ce _ _).drew|exact(HQ.later G).later (af).drew)
     (case h2=>first|exact(HH.later G).later (ce _ _).drew|exact(HH.later G).later (af).drew)
     rintro N z ⟨f,A,rfl,hd,t⟩;first
     |(have y:=Y (Gi t);have⟨z0,z1,z2,z3,z4,z5,z6,z7⟩:=Bx.eight (x:=zB) y.2;have rz:=y.2.frozen)
     |(have y:=Y (JP t)))
    all_goals go_wp2_with fail
    all_goals go_meet
    all_goals refine⟨_,f,A,rfl,rfl,hd,?_,?_⟩
    all_goals first
     |exact(JQ y.2 (d:=f):)
     |exact bP y.1 (OJ _) 0 f
     |exact Bx.new _ _ _
     |exact y.alloc y.size _
   case rest=>
   obtain⟨ag,f,A,rfl,rfl,hd,aF,t⟩:=hcut;have R6:=Y (H.later t H.lt);have X6:=Y (X5.later t X5.lt);have V:H_ (bt wc (e+1) _ (aR (U.take b) l M)):=aW O5 t;have S:H_ (bB wc (e+1) _ (eG (U.take b) l M)):=aW I5 t;have B6:=Y (G.t t);have T:H_ (e.heap.size+1<=wc):=X6.lt;have L6:=Y (show(aR (U.take b) l M).length<=1000/\(eG (U.take b) l M).length<=1000 by have h1:=IP (U.take b) l M;have h2:=Ik (U.take b) l M;rw[OM] at h1 h2;omega);have c0:wc.cell? wr=Zb d.at_:=R6.cell 0;have⟨d0,d1,d2,d3,d4,d5,d6,d7⟩:=aF.eight;clear hb ao an aj ab ar g5;cases A with
   |true=>
    have HS:=Y (show cR d l M=f by
     have⟨h1,h2⟩:=hd.o;cases hs:cR d l M with
     |none=>rw[hs] at h2;exact absurd h2 (by simp)
     |some aB=>rw[hs] at h1;rw[h1];rfl)
    have o:=Y (Fj HK HS);go_wp2_with (at_builtin;refine eF rfl rfl (e+1) (aR (U.take b) l M) ?o1 ⟨d.at_,f⟩ ?o2 ?o3 ?o4 ?_);case o1=>exact V
    case o2=>rfl
    case o3=>have:=L6.1;omega
    case o4=>exact T
    intro ad Z w7 I u;have L:=Y ((ce (e+1) wc).grown u T (λb K=>(World.ownsRow.lt V b K).1));have R:=Y I;have Q:H_ (bB w7 (e+1) _ (eG (U.take b) l M)):=mR S V (by decide) u;have X7:=Y (X6.later L (Nat.lt_succ_self _));have B7:=Y (B6.trans (L.mono (Ty C.size)));rw[<-J] at R ⊢;clear I u;go_wp2_with fail;go_roundw
    case rel=>exact⟨b+1,F+1,D,some ad,Z,s,c2,by omega,by go_num,rfl,rfl,by rw[o.1,OC,<-J];exact Y rfl,by rw[o.2];exact hs,by rw[o.1];exact R,by rw[o.2];exact Q,X7,B7⟩
    case measure=>simp[intOf];omega
   |false=>
    have HS:=Y (show cR d l M=none by
     have⟨h1,h2⟩:=hd.o;cases hs:cR d l M with
     |none=>rfl
     |some aB=>rw[hs] at h2;exact absurd h2 (by simp))
    have o:=Y (Fi HK HS);go_wp2_with (at_builtin;refine jL rfl rfl (e+1) (eG (U.take b) l M) ?o1 d.at_ ?o2 ?o3 ?o4 ?_);case o1=>exact S
    case o2=>rfl
    case o3=>have:=L6.2;omega
    case o4=>exact T
    intro ad Z w7 I u;have L:=Y ((ce (e+1) wc).grown u T (λb K=>(World.ownsRow.lt S b K).1));have Q:=Y I;have R:H_ (bt w7 (e+1) _ (aR (U.take b) l M)):=mR V S (by decide) u;have X7:=Y (X6.later L (Nat.lt_succ_self _));have B7:=Y (B6.trans (L.mono (Ty C.size)));rw[<-hs] at Q ⊢;clear I u;go_wp2_with fail;go_roundw
    case rel=>exact⟨b+1,F,D+1,r,c1,some ad,Z,by omega,by go_num,rfl,rfl,by rw[o.1];exact J,by rw[o.2,OC,<-hs];exact Y rfl,by rw[o.1];exact R,by rw[o.2];exact Q,X7,B7⟩
    case measure=>simp[intOf];omega
  ·have HT:H_ (U.take b=U):=OL (by have:=HP.1;omega)
   go_wp2_with fail;rw[HT] at J hs W hI;have ax:=J.o;have aD:=hs.o;subst ax aD;refine UM (by simp[results,results256,go_sem]) rfl ⟨r,c1,s,c2,rfl,(World.ownsRow.mono W (Ty C.size)),(World.ownsRow.mono hI (Ty C.size)),hB⟩
end
section
open Go.RowKit Go.ChangeMaps
theorem CB(r:QL w q m U)(t:BL w a n l)(u:BL w p k M)(hc:k<=j)(A:1<=n)(z:n<=32)(y:m<=1000)(h0:cF M=0)(o:qE n U=0)(s:eG U l M=[])(h:i=(aR U l M).length):
 C_ prog 256 #[(q,m,g),(a,n,c),(p,k,j)] w λf e=>∃b c1 d c2,f=Zr #[.slice b i c1,.slice d 0 c2,Zn]/\H_ (bt e w (.slice b i c1) (aR U l M))/\H_ (OS w e):=by
 have x:gW n M=0:=by unfold gW;rw[UX (by omega)];exact h0
 refine(CC (g:=g) (c:=c) r t u hc (by omega) y x o).mono ?_;rintro f e ⟨b,c1,d,c2,rfl,h1,h2,v⟩;rw[s,<-h];rw[<-h] at h1;exact⟨b,c1,d,c2,rfl,h1,v⟩
theorem zj(i:Nat)(r:BL w a n l)(p:QL w q m U)(hc:n<=g)(o:cF l=0)(h:k=(bY l U).length):
 C_ prog 214 #[(a,n,g),(q,m,i)] w λf e=>∃d b,f=Zr #[.slice d k b,Zn]/\H_ (ay e w (.slice d k b) (bY l U))/\H_ (OS w e):=by
 refine(Kk (j:=i) r p hc o).mono ?_;rintro f e ⟨d,b,rfl,h1,h2⟩;rw[<-h];rw[<-h] at h1;exact⟨d,b,rfl,h1,h2⟩
theorem Gn(h:Below n w v)(a:Ex (λb=>b=g) v z)(d:n<=v)(e:n<=g):Below n w z:=⟨a.os.trans h.os,a.tape.trans h.tape,a.output.trans h.output,OP h.size a.size,λk c=>(a.block k (by omega) (by omega)).trans (h.block k c)⟩
namespace Mx
theorem Ny(h:qE n U=0):∀q∈U,0<=q.at_/\q.at_<(n:Int):=by
 have b:iS n U=true:=by
  unfold qE at h;by_cases a:iS n U=true
  ·exact a
  ·rw[UX a] at h;omega
 unfold iS at b;rw[Nm] at b;have d:∀k,∀q,U[k]?=some q->0<=il U k/\0<=q.at_/\q.at_<(n:Int):=by
  intro k;induction k with
  |zero=>
   intro q a;have h1:=b 0 (IR.2 (OI.1 a).1);unfold jo qOk at h1;rw[Oy,a] at h1;simp only[Tw,LT,UP] at h1;have h2:il U 0=0:=rfl;omega
  |succ k f=>
   intro q a;have c:=(OI.1 a).1;have h1:=b (k+1) (IR.2 c);unfold jo qOk at h1;rw[Oy,a] at h1;simp only[Tw,LT,UP] at h1;have g:=f _ (Ox (by omega:k<U.length));have h2:=mU (Ox (by omega:k<U.length));omega
 intro q a;have⟨k,e⟩:=Tv a;exact(d k q e).2
theorem KR{peer had:List B8}(h:qE n U=0):∀p∈aR U peer had,0<=p.at_/\p.at_<(n:Int):=by
 intro p b;have⟨q,c,a⟩:=If.1 b;have h1:=Ny h q c;unfold lG at a;split at a
 ·simp at a;rw[a];exact h1
 ·simp at a
theorem KS(a:List Pk)(c b:List B8):(aR a c b).length<=a.length:=by
 unfold aR;induction a with
 |nil=>simp
 |cons q a d=>
  rw[Id,OC,fd];have:(lG q c b).length<=1:=by unfold lG;split<;>simp
  omega
end Mx
theorem Bc(hm:Mut W w)(ho:OtW Z W w g n X V)(P:QL w a m U)(ht:V.back<k)(bp:1<=n)(aP:n<=32)(hb:(x=0/\l=List.replicate n zB)\/(x=(V.back:Int)/\x≠0/\X[V.back]?=l))(hbl:l.length=n)(T:cF V.had=0)(hE:qE n U=0)(aN:eG U l V.had=[])(aD:X[k]?=M)(aK:aH l (aR U l V.had)=M)(bi:m<=1000)(a7:(k:Int)<=2147483647)(bf:(V.sb:Int)<=2147483647):
 C_ prog 250 #[(g,0),.agg #[x,k,(a,m,c)]] w λe v=>e=Zv Zn/\H_ (OtD Z W w v g n X {V with back:=k,had:=bY V.had U}):=by
 have⟨W0,av⟩:=ZX (w.alloc (.cells #[x,k,(a,m,c)] 334));have B0:=bxA av;have C:=beA av;have HO:=Y (ho.later C);have HM:=Y (hm.later C);have HQ:=Y (P.later C);have bg:=Y hb;have HH:=Y T;have HE:=Y hE;have aT:=Y aN;have bm:=Y aD;have aI:=Y aK;have aB:=Y hbl;have aE:=Y (KR (peer:=l) (had:=V.had) hE);have⟨E,ab⟩:=ZX ((aR U l V.had).length);have⟨HN,a9⟩:=ZX ((bY V.had U).length);have bw:E<=1000:=by rw[ab];have h1:=KS U l V.had;have h2:=P.1;omega
 clear ho hm P hb T hE aN aD aK hbl;have⟨r,na,nn,nc,ha,hn,hc,ao⟩:=HO.o;have aG:=Y ao;have NE:=Y ao.ne;clear ao;have⟨O,F,t⟩:=B0.three;go_enter func250,ntmps250;go_upto_region 1 with fail;rw[<-av];go_wp2_with fail;refine(Is HO (a:=a) (m:=m) (c:=c) ht aP bg).mono ?_;rintro e D ⟨p,rfl,O1,A⟩;have B1:=Y (B0.later A B0.lt);have M1:=Y (HM.later A);have Q1:=Y (HQ.later A);have aA:W0<=p/\p<D:=World.ownsRow.lt O1 p rfl;have ag:=Y aA;clear O F t aA;have HX:=Y (aG.later A);go_upto_region 4 with fail;have⟨O,F,t⟩:=B1.three;have⟨L,x1,N,x3,x4,z⟩:=HX.bx.cells;clear O F L x1 N x3 x4;have aZ:w<D.heap.size:=B1.lt;have a0:g<D:=Bx.lt HX.bx;have DR:=Y (show OS D D.drew from(ce _ _).drew);have QD:=Y (Q1.later DR);have BD:=Y (show BL D.drew (some ⟨p,0,none⟩) n l from(ay.blo O1 (Mut.none W0) (OJ _)).1.1.later DR);have HD:=Y (HX.r.hd.1.later DR);go_region_held3 (λv=>v.cell? (w,2)=(a,m,c)/\v.cell? (g,5)=(ha,hn,hc))
  (first|((try simp only[an]);with_reducible exact⟨t,z⟩)|with_reducible exact⟨ad,R⟩)
  (first|(go_at_call 256;(with_reducible refine(CB (g:=c) (c:=n) QD.o BD.o HD.o HX.o.r.hc bp aP bi HH.o HE.o aT.o ab.o).mono ?_);rintro e J ⟨a1,c1,a2,c2,rfl,P2,E2⟩;have o:=Y (DR.t E2);have ad:=(o.cell (p:=(w,2)) aZ).trans t;have R:=(o.cell (p:=(g,5)) a0).trans z))
 all_goals
  clear t z ad R QD BD HD;have B2:=Y (B1.later o B1.lt);have X2:=Y (HX.later o);have M2:=Y (M1.later o);have Q2:=Y (Q1.later o);have O2:H_ (ay J w (p,n,n) l):=World.ownsRow.mono (aW O1 o) C.size;go_upto_region 9 with fail;have⟨O,F,t⟩:=B2.three;have⟨L,x1,N,x3,x4,z⟩:=X2.bx.cells;clear O F L x1 N x3 x4;have be:w<J.heap.size:=B2.lt;have bd:g<J:=Bx.lt X2.bx;have aj:=Y (show OS J J.drew from(ce _ _).drew);have QD:=Y (Q2.later aj);have HD:=Y (X2.r.hd.1.later aj);go_region_held3 (λv=>v.cell? (w,2)=(a,m,c)/\v.cell? (g,5)=(ha,hn,hc))
   (first|((try simp only[an]);with_reducible exact⟨t,z⟩)|with_reducible exact⟨ad,R⟩)
   (first|(go_at_call 214;(with_reducible refine(zj c HD.o QD.o X2.o.r.hc HH.o a9.o).mono ?_);rintro e K ⟨a3,c3,rfl,H3,E3⟩;have s:=Y (aj.t E3);have ad:=(s.cell (p:=(w,2)) be).trans t;have R:=(s.cell (p:=(g,5)) bd).trans z))
  all_goals
   clear t z ad R QD HD;have B3:=Y (B2.later s B2.lt);have X3:=Y (X2.later s);have M3:=Y (M2.later s);have O3:H_ (ay K w (p,n,n) l):=aW O2 s;have P3:H_ (bt K D (a1,E,c1) (aR U l V.had)):=aW (World.ownsRow.mono P2 DR.size) s;have bG:p<D:=ag.2;have aq:=Y (show PL K a1 E (aR U l V.had)/\∀S,a1=some S->D.heap.size<=S.block from by
    have⟨a',c',hv,_,hr,hp⟩:=aF P3;cases hv
    exact⟨⟨ab.symm,by rw[ab];exact hr⟩,hp⟩)
   have bD:=Y (ay.blo H3 (M2.later aj) (OJ _));have ba:=Y (show OS w K from(((C.t A)).trans (o.mono (OP C.size A.size))).trans (s.mono (OP (OP C.size A.size) o.size)));have bx:w<=p:=by have h1:=ag.1;have h2:=C.size;omega
   have bz:H_ (¬W p):=Y (λhs=>by have h1:=HM.lt _ hs;have h2:=ag.1;omega);have bE:H_ (p≠w):=Y (by
    have h1:=aU O3 B3 (by decide);intro e;exact h1 (by rw[<-e];rfl))
   go_upto_region 13 with fail;go_loopw [56] (λax wr=>∃h:Nat,ax=Zb (h:Int)/\h<=E/\H_ (ay wr w (p,n,n) (aH l ((aR U l V.had).take h)))/\H_ (Ex (λd=>d=p) K wr)) (λax _=>E-(intOf ax).toNat)
   case atStart=>exact⟨0,rfl,ol _,by rw[List.take_zero];exact O3,Ex.refl _ _⟩
   case round=>
    obtain⟨h,rfl,hk,hO,Q⟩:=hrel;by_cases bo:h<E
    ·have bF:(h:Int)<E:=by omega
     have bn:=Y (show PL wr a1 E (aR U l V.had) from⟨aq.1.1,aq.1.2.ext Q (λ_ S P e=>by have h1:=aq.2 S P;omega)⟩);have⟨bb,bv,f,aS,br,ah,c0,d1,d2,d3,d4,d5,d6,d7,d8⟩:=bn.at_ h bo;have bs:=Y aS;subst aS;have HP:=Y ah;obtain⟨q,hi⟩:∃q:Nat,H_ (f.at_=(q:Int)):=⟨f.at_.toNat,by have y:=aE f (OR ah);unfold H_;omega⟩;have az:q<n:=by have y:=aE f (OR ah);have h8:=hi.o;omega
     have bC:(q:Int)<(n:Int):=by omega
     rw[hi] at c0;clear ah;have⟨i,ai⟩:=ZX (wr.alloc (.cells (Zq q f.d) 123));have B:=bxA ai;have O4:H_ (ay i w (p,n,n) (aH l ((aR U l V.had).take h))):=(by rw[ai];exact World.ownsRow.alloc hO _);have Z4:H_ (Ex (λd=>d=p) K i):=(by rw[ai];exact Q.trans (Ex.below (af)));have bc:H_ ((aH l ((aR U l V.had).take h)).length=n):=Y (by rw[dD];exact aB);go_upto_region 15 with fail;rw[<-ai];clear c0 d1 d2 d3 d4 d5 d6 d7 d8;have y0:i.cell? wr=Zb (q:Int):=B.cell 0;have y1:i.cell? (wr,1)=Za f.d.z0:=B.cell 1;have y2:i.cell? (wr,2)=Za f.d.z1:=B.cell 2;have y3:i.cell? (wr,3)=Za f.d.z2:=B.cell 3;have y4:i.cell? (wr,4)=Za f.d.z3:=B.cell 4;have R:i.cell? (wr,5)=Za f.d.z4:=B.cell 5;have y6:i.cell? (wr,6)=Za f.d.z5:=B.cell 6;have y7:i.cell? (wr,7)=Za f.d.z6:=B.cell 7;have y8:i.cell? (wr,8)=Za f.d.z7:=B.cell 8;have OF:=Y (show ay (aV i p (q*8) f.d) w (p,n,n) (aH l ((aR U l V.had).take (h+1))) by
      rw[iJ l _ h f HP,show f.at_.toNat=q by rw[hi];rfl];exact O4.put q (by rw[bc];exact az) f.d)
     have ZF:H_ (Ex (λd=>d=p) K (aV i p (q*8) f.d)):=Z4.trans (Ex.one (nY (au _) _ _));have⟨bq,bu,x9,aL,_,_,q0,q1,q2,q3,q4,q5,q6,q7⟩:=(ay.blo O4 (Mut.none w) (OJ _)).1.1.at_ q az;simp only[Option.some.injEq,Addr.mk.injEq,US] at aL;obtain⟨rfl,rfl⟩:=aL;simp only[m9] at q0 q1 q2 q3 q4 q5 q6 q7;have bA:∀oo,i.frozen? ⟨p,oo,none⟩=false:=(O4.form (by omega)).elim λgg T=>by
      have y:gg=p:=by have:=T.1;simp at this;exact this.symm
      rw[<-y];exact T.2.2.2.2
     have a4:¬wr=p:=by have y:=Q.size;have h8:=o.size;have h7:=s.size;omega
     have bB:¬p=wr:=λe=>a4 e.symm
     unfold aV at OF ZF;go_wp2;go_roundw
     case rel=>exact⟨h+1,by go_num,by omega,OF,ZF⟩
     case measure=>simp[intOf];omega
    ·obtain rfl:h=E:=by omega
     have OK:=Y (show ay wr w (p,n,n) M by
      have y:=hO.o;rw[OL (by rw[ab];exact OJ _),aI] at y;exact y)
     have DW:=Y (show OS W0 wr from(Gn ((A.t o).trans (s.mono (OP A.size o.size))) Q (OP (OP A.size o.size) s.size) ag.1));have b:=Y (aG.later DW);have MR:=Y (HM.later DW);have BR:=Y (B0.later DW B0.lt);have aM:H_ (M.length=n):=(by rw[<-aI,dD];exact aB);have OH:=Y (show ay wr J.drew.heap.size (a3,HN,c3) (bY V.had U) from Ext.own Q.toExt H3 (λh hk e=>by
      have h1:=(World.ownsRow.lt H3 h hk).1;have h2:J.drew.heap.size=J:=rfl;have h3:=o.size;omega))
     have BH:=Y (ay.blo OH M2 (OJ _));have⟨al,bh,aw⟩:=b.r.nd;have ND:=Y aw;have a6:H_ (al.length=n):=(by have⟨_,_,_,_,_,_,_,_,H9,_⟩:=aw;exact H9.bln);clear bh aw;have⟨O,F,t⟩:=BR.three;have⟨L,x1,N,x3,x4,z⟩:=b.bx.cells;clear O t x1 x3 x4 z;have bk:w<wr.heap.size:=BR.lt;have aC:g<wr:=Bx.lt b.bx;have aX:r≠w:=λe=>by
      have h1:=b.sub _ b.ag;have h2:=HM.lt _ h1;have⟨_,_,_,_,_,_,_,T9,_⟩:=ND.o;have h3:=T9.bx;have h4:=BR.o;unfold Sbx at h3;unfold Bx at h3 h4;rw[e,h4] at h3;simp at h3
     go_upto_region 17 with fail;have aO:=Y (show OS wr wr.drew from(ce _ _).drew);have a8:=Y (show BL wr.drew (some ⟨p,0,none⟩) n M from(ay.blo OK (Mut.none w) (OJ _)).1.1.later aO);go_region_held3 (λv=>v.cell? g=(r,0)/\v.cell? (g,2)=Zb (V.sb:Int)/\v.cell? (w,1)=Zb (k:Int))
      (first|((try simp only[an]);with_reducible exact⟨L,N,F⟩)|with_reducible exact⟨y0,y2,ar⟩|with_reducible exact⟨z0,z2,zb1⟩)
      (first|(go_at_call 236;(with_reducible refine(lC n a8.o (by omega)).mono ?_);rintro e w5 ⟨a5,c5,rfl,P5,E5⟩;have H:=Y (aO.t E5);have y0:=(H.cell (p:=g) aC).trans L;have y2:=(H.cell (p:=(g,2)) aC).trans N;have ar:=(H.cell (p:=(w,1)) bk).trans F;have bl:=Y (bt.plo P5 (Mut.none w) (OP ba.size (OP Q.size (OJ _)))).1.1;have M5:=Y (MR.later H);have N5:=Y (ND.later H))|(go_at_call 147;(with_reducible refine(j6 M5.o N5.o c5 bl.o (λS P=>by have y:=yR S P;rw[aM.o] at y;exact y) (OJ _) (by omega) a7 (by omega) bf).mono ?_);rintro e w6 ⟨rfl,N6,G6,M6⟩;have z0:=G6.cell (row:=r) (a:=⟨g,0,none⟩) y0 (λe=>NE (OG e));have z2:=G6.cell (row:=r) (a:=⟨g,2,none⟩) y2 (λe=>NE (OG e));have zb1:=G6.cell (row:=r) (a:=⟨w,1,none⟩) ar (λe=>aX (OG e).symm)))
     all_goals
      clear L N F y0 y2 ar z0 z2 zb1;have Z6:=Y (Ex.one G6);have X6:H_ (Obx w6 g r n (V.sb:Int) (V.want:Int) na nn nc ha hn hc):=Ex.bx Z6 (Bx.later b.bx H (Bx.lt b.bx)) NE;have z:=X6.cells.2.2.2.2.2;have xz:=Bx.frozen X6;have⟨W7,am⟩:=ZX (w6.setCell (g,5) (a3,HN,c3));have G7:H_ (w6.grownBy W7 (some g)):=(by rw[am];exact ak (au _) _ _);have Z7:=Y (Ex.one G7);have X7:H_ (Obx W7 g r n (V.sb:Int) (V.want:Int) na nn nc a3 HN c3):=(by rw[am];exact Bx.set X6 5 _);have M7:=Y (M6.eW Z7 X7 iz);have bj:∀d,d=r->W d:=λd e=>by rw[e];exact b.sub _ b.ag
      have aQ:∀d,d=g->W d:=λd e=>by rw[e];exact b.sub _ b.aO
      have EX:=Y (show Ex W wr W7 from((Ex.below H).chain Z6 (λd _ e=>bj d e)).chain Z7 (λd _ e=>aQ d e));have aJ:aH al (bM M)=M:=ko M al (by rw[a6,aM]);have R7:=Y (show OtR W W7 n X {V with back:=k,had:=bY V.had U} r na nn nc a3 HN c3 from by
       have h1:=N6.ext Z7 aQ (λe=>NE e.symm);rw[aJ] at h1;exact⟨⟨M,bm,h1⟩,b.r.nu.ext EX,b.r.nc,BH.1.ext EX,BH.2,b.r.fg⟩)
      clear aJ;have E7:=Y (show Ex Z w W7 from(((Ex.below (S:=Z) C).chain (Ex.below (S:=Z) DW) (λ_ _ ap=>ap)).chain ((Ex.below (S:=Z) H).chain Z6 (λd _ e=>by rw[e];exact b.ag)) (λ_ _ ap=>ap)).chain Z7 (λd _ e=>by rw[e];exact b.aO));go_wp2;rw[<-am];exact UM (by simp[results,results250,go_sem]) rfl ⟨rfl,⟨M7,⟨r,na,nn,nc,a3,HN,c3,X7,R7,b.aO,b.ag,b.sub⟩,E7⟩⟩
