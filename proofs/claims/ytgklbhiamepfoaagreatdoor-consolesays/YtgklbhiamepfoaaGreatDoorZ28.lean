import Derived.Test.YtgklbhiamepfoaaGreatDoorZ26
import Derived.Test.YtgklbhiamepfoaaGreatDoorZ27
set_option maxHeartbeats 16000000
set_option maxRecDepth 100000
namespace Go.Proofs.YtgklbhiamepfoaaGreatDoor
open Go renaming World->W_,Value->V_,Calls->C_,Addr->A_
open Go.RowKit renaming Hid->H_
open Go.Proofs.Tryz Mx
variable {n g k m c j i h b:Nat}{w u z:W_}{l L R:List Int}{a q:Option A_}{Z W:Nat->Prop}{X:List (List B8)}{V:Of_}{x y r:Int}{U:Bu}{T:Pf_}{S:Exit->Act->W_->Prop}{v P H p o f e d:V_}{M:List B8}{Q:List Pk}{O:Act}{N:List Nat}{K:Rc_}{J:List Lt_}{I:Pk}{G:Code}{F:Act->W_->Prop}{E:Lt_}{D:Bool}{C:Fr}{B:Array Oper}{A:Oper}{t:Operand}
section
open Go.RowKit Go.ChangeMaps
theorem aD.ofRow(d:l.length=n)(h:dt w a n 1 (l.map (Value.int .i64))):aD w a n l:=by
 refine⟨d,h.2.1,λc=>?_⟩;have⟨e,g,f,b,hc⟩:=h.2.2 c;refine⟨e,g,f,b,λi j=>hc i _ ?_⟩;rw[i8,Oy,Ox (by omega)];rfl
theorem Bk(hm:Mut W w)(ho:OtW Z W w g n X V){c1 c2:Nat}(hi:aD w a k l)(ai:(fo V).length<=400)(ap:k<=400)(ag:0<(fo V).length+k)(F:List Int):
 C_ prog 229 #[(g,0),.agg #[Zi,(a,k,c1),(q,m,c2)]] w λe u=>e=Zv Zn/\H_ (OtD Z W w u g n X {V with got:=V.got++[⟨0,l,m,F⟩]}):=by
 have⟨f,J⟩:=ZX (w.alloc (.cells #[Zi,(a,k,c1),(q,m,c2)] 308));have z:=bxA J;have x:=beA J;have HM:=Y (hm.later x);have HI:=Y (hi.later x);have HO:=Y (ho.later x);have⟨H,O,b,I,M,D,hc,K⟩:=HO.o;have t:=Y K;have P:(fo V).length=b:=K.r.nu.1.1;have ar:=Y P;rw[P] at ai ag;clear hm hi ho K P;have⟨W1,s⟩:=ZX ((f.alloc (.cells #[(O,b,I),(a,k,c1)] 224)).drew);have r:H_ (OS f W1):=(by rw[s];exact(af).drew);have C1:H_ (Bx W1 f #[(O,b,I),(a,k,c1)] 224):=(by rw[s];exact Bx.dC f _ _);have⟨b0,B,b2⟩:=z.three;have⟨x0,x1,T,x3,y,x5⟩:=t.bx.cells;clear b0 b2 x0 x1 T x3 x5;have ad:w<f.heap.size:=z.lt;have ah:g<f:=Bx.lt t.bx;have I1:=Y (t.r.nu.1.later r);have J1:=Y (HI.later r);have G:=Y (tf C1 I1 J1 ag ai ap);rw[s] at G;go_enter func229,ntmps229;go_upto_region 1 with fail;rw[<-J];go_region_held3 (λu=>u.cell? (g,4)=(O,b,I)/\u.cell? (w,1)=(a,k,c1))
  (first|((try simp only[an,aq ad,aq ah]);with_reducible exact⟨y,B⟩)|with_reducible exact⟨y4,ab⟩)
  (first|(go_at_call 248;(with_reducible refine G.o.mono ?_);rintro e E ⟨o,c3,rfl,Q,E2⟩;rw[<-s] at Q E2;have j:=Y (r.t E2);have y4:=(j.cell (p:=(g,4)) ah).trans y;have ab:=(j.cell (p:=(w,1)) ad).trans B))
 all_goals
  clear y B y4 ab G;have B2:=Y (z.later j z.lt);have d:=Y (t.later j);have M2:=Y (HM.later j);have⟨b0,B,b2⟩:=B2.three;have⟨x0,x1,T,x3,y,x5⟩:=d.bx.cells;have xz:=Bx.frozen d.bx;have U:=Y (show Ino W E o (b+k) (fo V++l)/\b+k<=c3/\(∀C,o=some C->f.heap.size<=C.block) from by
   have⟨a',c',S,aj,h,R⟩:=aF Q;have ao:(fo V++l).length=b+k:=by rw[OC,ar,HI.1]
   rw[ao] at S h aj;cases S
   exact⟨⟨aD.ofRow (by rw[ao]) h,Av.new HM r.size R⟩,aj,λC hq=>OP r.size (R C hq)⟩)
  have⟨A,N⟩:=ZX (E.setCell (g,4) (o,b+k,c3));have G3:H_ (E.grownBy A (some g)):=(by rw[N];exact ak (au _) _ _);have v:=Y (Ex.one G3);have X3:H_ (Obx A g H n (V.sb:Int) (V.want:Int) o (b+k) c3 M D hc):=(by rw[N];exact Bx.set d.bx 4 _);have M3:=Y (M2.eW v X3 iz);have am:∀i,i=g->W i:=λi e=>by rw[e];exact d.sub _ d.aO
  have R3:=Y (show OtR W A n X {V with got:=V.got++[⟨0,l,m,F⟩]} H o (b+k) c3 M D hc from by
   have h:=d.r.ext v am (λe=>d.ne e.symm);refine⟨h.nd,?_,U.2.1,h.hd,h.hc,h.fg⟩;have h1:fo {V with got:=V.got++[⟨0,l,m,F⟩]}=fo V++l:=by unfold fo;simp
   rw[h1];exact U.1.ext (v.mono (λi _ e=>am i e)))
  have E3:=Y (show Ex Z w A from((Ex.below (S:=Z) x).chain (Ex.below (S:=Z) j) (λ_ _ av=>av)).chain v (λi _ e=>by rw[e];exact d.aO));go_wp2;rw[<-N];exact UM (by simp[results,results229,go_sem]) rfl ⟨rfl,⟨M3,⟨H,o,b+k,c3,M,D,hc,X3,R3,d.aO,d.ag,d.sub⟩,E3⟩⟩
theorem Bj(hm:Mut W w)(ho:OtW Z W w g n X V){c1 c2:Nat}(hi:aD w a k l)(aC:(fo V).length<=400)(aQ:k<=400)(ay:0<(fo V).length+k)(az:BL w q m M)(aS:m<=c2)(aZ:m<=1000)(ax:fo V++l=x::(c:Int)::N.map (λx:Nat=>(x:Int)))(aE:iw (N.map (λx:Nat=>(x:Int))) M=Q)(ao:∀x∈N,x<4096)(ht:V.back<c)(ba:1<=n)(aX:n<=32){j aM:List B8}(aw:(x=0/\j=List.replicate n zB)\/(x=(V.back:Int)/\x≠0/\X[V.back]?=j))(aG:j.length=n)(hh:cF V.had=0)(hE:qE n Q=0)(aK:eG Q j V.had=[])(aL:X[c]?=aM)(ap:aH j (aR Q j V.had)=aM)(aW:Q.length<=1000)(a8:(c:Int)<=2147483647)(aP:(V.sb:Int)<=2147483647):
 C_ prog 229 #[(g,0),.agg #[Zb 1,(a,k,c1),(q,m,c2)]] w λe H=>e=Zv Zn/\H_ (OtD Z W w H g n X {V with back:=c,had:=bY V.had Q,got:=[]}):=by
 have⟨h,ad⟩:=ZX (w.alloc (.cells #[Zb 1,(a,k,c1),(q,m,c2)] 308));have O:=bxA ad;have v:=beA ad;have HM:=Y (hm.later v);have HI:=Y (hi.later v);have HO:=Y (ho.later v);have⟨aA,P,d,K,ha,hn,hc,ag⟩:=HO.o;have G:=Y ag;have aj:(fo V).length=d:=ag.r.nu.1.1;have aV:=Y aj;rw[aj] at aC ay;have a7:=Y (az.later v);have aT:=Y ax;have a4:=Y aE;have a6:=Y ao;have a9:=Y aw;have bb:=Y aG;have HH:=Y hh;have HE:=Y hE;have aO:=Y aK;have a5:=Y aL;have bc:=Y ap;clear az ax aE ao aw aG hh hE aK aL ap;clear hm hi ho ag aj;have⟨W1,E⟩:=ZX ((h.alloc (.cells #[(P,d,K),(a,k,c1)] 224)).drew);have D:H_ (OS h W1):=(by rw[E];exact(af).drew);have C1:H_ (Bx W1 h #[(P,d,K),(a,k,c1)] 224):=(by rw[E];exact Bx.dC h _ _);have⟨b0,C,b2⟩:=O.three;have⟨z,t,r,u,o,B⟩:=G.bx.cells;clear b0 b2 z t r u B;have av:w<h.heap.size:=O.lt;have aB:g<h:=Bx.lt G.bx;have I1:=Y (G.r.nu.1.later D);have J1:=Y (HI.later D);have HC:=Y (tf C1 I1 J1 ay aC aQ);rw[E] at HC;go_enter func229,ntmps229;go_upto_region 1 with fail;rw[<-ad];go_region_held3 (λH=>H.cell? (g,4)=(P,d,K)/\H.cell? (w,1)=(a,k,c1))
  (first|((try simp only[an,aq av,aq aB]);with_reducible exact⟨o,C⟩)|with_reducible exact⟨y4,ar⟩)
  (first|(go_at_call 248;(with_reducible refine HC.o.mono ?_);rintro e w2 ⟨a3,c3,rfl,O2,E2⟩;rw[<-E] at O2 E2;have i:=Y (D.t E2);have y4:=(i.cell (p:=(g,4)) aB).trans o;have ar:=(i.cell (p:=(w,1)) av).trans C))
 all_goals
  clear o C y4 ar HC;have B2:=Y (O.later i O.lt);have X2:=Y (G.later i);have M2:=Y (HM.later i);have⟨b0,C,b2⟩:=B2.three;have⟨z,t,r,u,o,B⟩:=X2.bx.cells;have xz:=Bx.frozen X2.bx;have I2:=Y (show Ino W w2 a3 (d+k) (fo V++l)/\d+k<=c3/\(∀R,a3=some R->h.heap.size<=R.block) from by
   have⟨a',c',F,aI,b,hp⟩:=aF O2;have aN:(fo V++l).length=d+k:=by rw[OC,aV,HI.1]
   rw[aN] at F b aI;cases F
   exact⟨⟨aD.ofRow (by rw[aN]) b,Av.new HM D.size hp⟩,aI,λR hq=>OP D.size (hp R hq)⟩)
  clear xz z t r u o B;go_upto_region 5 with fail;go_wp2_with fail;have aU:H_ (aD w2 a3 (d+k) (x::(c:Int)::N.map (λx:Nat=>(x:Int)))):=(by rw[<-aT];exact I2.1.1);refine(yO aU I2.2.1 (a7.later i) aS a4 a6 (by omega) aZ).mono ?_;rintro e w3 ⟨qa,qn,qc,rfl,Q3,E3⟩;have aJ:=Y (show QL w3 qa qn Q/\qn=Q.length from by
   have⟨a',c',F,_,b,_⟩:=aF Q3;cases F
   exact⟨⟨rfl,b⟩,rfl⟩)
  have⟨W4,ai⟩:=ZX (w3.alloc (.cells #[x,c,(qa,qn,qc)] 334));have U4:=bxA ai;have D4:=beA ai;have F4:=Y (E3.t D4);have X4:=Y (X2.later F4);have M4:=Y (M2.later F4);clear b0 C b2;go_upto_region 6 with fail;rw[<-ai];go_upto_region 8 with fail;have⟨u0,u1,u2⟩:=U4.three;go_wp2_with fail;refine(Bc (Z:=Z) (g:=g) M4 ⟨aA,P,d,K,ha,hn,hc,X4⟩ (c:=qc) (aJ.1.later D4) ht ba aX a9 bb HH HE aO a5 bc (by rw[aJ.2];exact aW) a8 aP).mono ?_;rintro e w5 ⟨rfl,T⟩;clear u0 u1 u2;have⟨g5,be,bd,bf,ab,S,am,J⟩:=T.ot;have f:=Y J;have⟨z,t,r,u,o,B⟩:=J.bx.cells;have xz:=Bx.frozen J.bx;clear J z t r u B;have⟨s,ah⟩:=ZX (w5.setCell (g,4) Zs);have G6:H_ (w5.grownBy s (some g)):=(by rw[ah];exact ak (au _) _ _);have Z6:=Y (Ex.one G6);have X6:H_ (Obx s g g5 n (V.sb:Int) (V.want:Int) none 0 0 ab S am):=(by rw[ah];exact Bx.set f.bx 4 _);have M6:=Y (T.mu.eW Z6 X6 iz);have a0:∀I,I=g->W I:=λI e=>by rw[e];exact f.sub _ f.aO
  have R6:=Y (show OtR W s n X {V with back:=c,had:=bY V.had Q,got:=[]} g5 none 0 0 ab S am from by
   have b:=f.r.ext Z6 a0 (λe=>f.ne e.symm);exact⟨b.nd,Ino.nil W s,OJ _,b.hd,b.hc,b.fg⟩)
  have E6:=Y (show Ex Z w s from((((Ex.below (S:=Z) v).chain (Ex.below (S:=Z) i) (λ_ _ A=>A)).chain (Ex.below (S:=Z) F4) (λ_ _ A=>A)).chain T.ext (λ_ _ A=>A)).chain Z6 (λI _ e=>by rw[e];exact f.aO));go_wp2_with fail;rw[<-ah];exact UM (by simp[results,results229,go_sem]) rfl ⟨rfl,⟨M6,⟨g5,none,0,0,ab,S,am,X6,R6,f.aO,f.ag,f.sub⟩,E6⟩⟩
end
section
open Go.RowKit Go.ChangeMaps
theorem Mx.pY{d a e:Int}{c b:List Int}(i:Msg l y x a L n c)(f:Msg l r d e R g b):y=r/\x=d/\a=e/\L=R/\n=g/\c=b:=by
 have⟨_,h2,h,j⟩:=aI.one i.1 f.1;simp at h2;exact⟨h2.1,h2.2.1,h2.2.2.1,h2.2.2.2,h,j⟩
theorem EB(A:Mut W w)(D:OtW Z W w g n X V)(s:Bytes w a k l)(ad:k<=2000)(H:k<=m)(M:(V.sb:Int)<=2147483647)(ab:(V.want:Int)<=2147483647)(C:∀E i e f d,¬Msg l (V.sb:Int) E i e f d):
 C_ prog 197 #[(g,0),(a,k,m)] w λx t=>∃v,x=Zr #[v,Zn]/\H_ (OtD Z W w t g n X V)/\H_ (dN W t v none):=by
 have J:=Y A;have T:=Y D;have R:=Y s;have⟨ag,na,nn,nc,ha,hn,hc,j⟩:=D;have HX:=Y j;have⟨P,O,I,S,x4,U⟩:=j.bx.cells;have F:=Y C;clear C;clear A s j P O x4 U;have ah:∀(w:W_) (a:Option A_) (n p q r:Nat),(binOp .eql 26 (a,n,p) (.slice none q r)).run prog w=.ok (Zl a.isNone) w:=λw a n p q r=>Lib.run_eql_slice_nil w _ _ a n p q r Tryz.underlying26
 go_enter func197,ntmps197;go_wp2_with fail;refine(iP R ad H (by omega) M (by omega) ab).mono ?_;clear I S;rintro x b ⟨N,B⟩;have K:=Y B;clear B;rcases N with ⟨i,e,f,d,_,_,h,_⟩|⟨E,i,e,f,d,_,h,_⟩|⟨_,rfl⟩
 ·exact absurd h (F _ _ _ _ _)
 ·exact absurd h (F _ _ _ _ _)
 have⟨o,c⟩:=ZX ((b.alloc (.cells #[V.sb,V.want] 223)).alloc (.cells #[Zi,Zs,Zs] 308));have G:H_ (OS b o):=(by rw[c];exact(af).alloc (by simp) _);have B2:H_ (Bx o b #[V.sb,V.want] 223):=(by rw[c];exact(Bx.new b _ _).alloc _);have C2:=Y (show Bx o (b+1) #[Zi,Zs,Zs] 308 by
  rw[c];have h:=Bx.new (b.alloc (.cells #[V.sb,V.want] 223)) #[Zi,Zs,Zs] 308;rw[dl] at h;exact h)
 have Q:=Y (K.t G);go_upto_region 2 with fail;rw[<-c];go_wp2;exact UM (by simp[results,results197,go_sem]) rfl ⟨_,rfl,(OtD.same J T Q),Y rfl⟩
theorem yv(M:Mut W w)(Q:OtW Z W w g n X V)(T:Bytes w a k l)(ao:k<=2000)(ai:k<=m)(I:(V.sb:Int)<=2147483647)(ak:(V.want:Int)<=2147483647)(hf:V.bd=true)(U:Msg l (V.sb:Int) x y L c R):
 C_ prog 197 #[(g,0),(a,k,m)] w λe H=>∃v,e=Zr #[v,Zn]/\H_ (OtD Z W w H g n X V)/\H_ (dN W H v (some (bF 4 [(V.sb:Int)] 0 []))):=by
 have HM:=Y M;have HO:=Y Q;have HL:=Y T;have⟨ar,na,nn,nc,ha,hn,hc,p⟩:=Q;have HX:=Y p;have⟨D,s,r,j,B,F⟩:=p.bx.cells;have J:V.want=2147483647:=UT (by rw[<-p.r.fg];exact hf);have G:=Y J;have ah:=Y U;clear U hf J;clear M T p D s B F;have az:∀(w:W_) (a:Option A_) (n C E t:Nat),(binOp .eql 26 (a,n,C) (.slice none E t)).run prog w=.ok (Zl a.isNone) w:=λw a n C E t=>Lib.run_eql_slice_nil w _ _ a n C E t Tryz.underlying26
 go_enter func197,ntmps197;go_wp2_with fail;refine(iP HL ao ai (by omega) I (by omega) ak).mono ?_;clear r j;rintro e b ⟨hr,O⟩;have aj:=Y O;clear O;obtain⟨i,rfl,f⟩:∃i,e=Zr #[.agg #[V.sb,V.want],.agg #[Zi,Zs,Zs],Zl false,i,Zn]/\Own b w i (bF 0 [(V.sb:Int),(V.want:Int)] 0 []):=by
  rcases hr with ⟨_,_,_,_,_,_,_,h,_⟩|⟨x',ay,av,au,ap,i,h,ax,he,f⟩|⟨h,_⟩
  ·exact absurd G.o (by omega)
  ·exact⟨i,he,f⟩
  ·exact absurd ah (h _ _ _ _ _)
 clear hr;have⟨ba,bc,ad,S,ag,an⟩:=Own.br f;have ab:=eL (x:=0) (L:=[(V.sb:Int),(V.want:Int)]) (n:=0) (O:=[]);have⟨bb,bo,am,_⟩:=ag.2.2.2 ab;have⟨BN,al⟩:=ZX ((bF 0 [(V.sb:Int),(V.want:Int)] 0 []).length);subst am;rw[<-al] at ad;subst ad;have aq:=Y f;have aw:=Y S;clear f S ag an ab;have⟨d,o⟩:=ZX ((b.alloc (.cells #[V.sb,V.want] 223)).alloc (.cells #[Zi,Zs,Zs] 308));have D2:H_ (OS b d):=(by rw[o];exact(af).alloc (by simp) _);have B2:H_ (Bx d b #[V.sb,V.want] 223):=(by rw[o];exact(Bx.new b _ _).alloc _);have C2:=Y (show Bx d (b+1) #[Zi,Zs,Zs] 308 by
  rw[o];have h:=Bx.new (b.alloc (.cells #[V.sb,V.want] 223)) #[Zi,Zs,Zs] 308;rw[dl] at h;exact h)
 have q:=Y (aj.t D2);go_upto_region 2 with fail;rw[<-o];have X2:=Y (HX.later q);have⟨D,s,r,j,B,F⟩:=X2.bx.cells;clear D s B F;go_wp2_with fail;refine(gj j (K:=true) (by rw[G];rfl)).mono ?_;rintro e wz ⟨rfl,P⟩;obtain rfl:=P.symm;clear P;have⟨W5,A⟩:=ZX (d.alloc (.cells #[V.sb] 3));have D5:=beA A;have I5:H_ (aD W5 (some ⟨d,0,none⟩) 1 [(V.sb:Int)]):=(by rw[A];exact kB d [(V.sb:Int)] (by simp) (by simp));have N:=Y (Ih (k:=4) (x:=(V.sb:Int)) (by omega) ⟨by omega,I⟩);go_wp2_with fail;rw[<-A];refine(kD 1 I5 N).mono ?_;rintro e w6 ⟨v,rfl,O6,E6⟩;have F6:=Y (q.trans ((D5.t E6).mono q.size));have F5:=Y (q.t D5);clear r j;go_wp2_with fail;exact UM (v:=.tuple #[v,.nilIface]) (by simp[results,Tryz.results197,go_sem]) rfl ⟨v,rfl,Y (OtD.same HM.o HO.o F6.o),Y (dN.of O6.o (HM.o.later F5.o) (OJ _) (eL) (fR (ir w) N.o))⟩
theorem Iw(hm:Mut W w)(ho:OtW Z W w g n X V)(hl:Bytes w a k l)(aD:k<=2000)(ap:k<=m)(T:(V.sb:Int)<=2147483647)(ag:(V.want:Int)<=2147483647)(hf:V.bd=false)(ah:Msg l (V.sb:Int) x y L c R)(hx:x≠(V.want:Int)):
 C_ prog 197 #[(g,0),(a,k,m)] w λe S=>∃C,e=Zr #[C,Zn]/\H_ (OtD Z W w S g n X V)/\H_ (dN W S C (some (bF 0 [(V.sb:Int),(V.want:Int)] 0 []))):=by
 have HM:=Y hm;have HO:=Y ho;have HL:=Y hl;have⟨ab,na,nn,nc,ha,M,hc,s⟩:=ho;have P:=Y s;have⟨F,v,N,A,B,I⟩:=s.bx.cells;have aq:((V.want:Int)==2147483647)=false:=by
  have h1:=s.r.fg;rw[hf] at h1;have h2:=of_decide_eq_false h1.symm;simp;omega
 have J:=Y ah;have av:=Y hx;have ay:=Y (sI (x:=(V.sb:Int)) (y:=(V.want:Int)) (by omega) T (by omega) ag);clear ah hf hx;clear hm hl s F v B I;have aH:∀(w:W_) (a:Option A_) (n D G o:Nat),(binOp .eql 26 (a,n,D) (.slice none G o)).run prog w=.ok (Zl a.isNone) w:=λw a n D G o=>Lib.run_eql_slice_nil w _ _ a n D G o Tryz.underlying26
 go_enter func197,ntmps197;go_wp2_with fail;refine(iP HL aD ap (by omega) T (by omega) ag).mono ?_;clear N A;rintro e d ⟨hr,E1⟩;have Q:=Y E1;clear E1;obtain⟨i,rfl,p⟩:∃i,e=Zr #[.agg #[V.sb,V.want],.agg #[Zi,Zs,Zs],Zl false,i,Zn]/\Own d w i (bF 0 [(V.sb:Int),(V.want:Int)] 0 []):=by
  rcases hr with ⟨aC,aw,ar,an,C,i,h,_⟩|⟨x',aC,aw,ar,an,i,h,aG,he,p⟩|⟨h,_⟩
  ·exact absurd (pY J h).2.1 av
  ·exact⟨i,he,p⟩
  ·exact absurd J (h _ _ _ _ _)
 clear hr;have⟨ba,O,al,ad,am,aB⟩:=Own.br p;have ai:=eL (x:=0) (L:=[(V.sb:Int),(V.want:Int)]) (n:=0) (O:=[]);have⟨bb,U,aA,_⟩:=am.2.2.2 ai;have⟨BN,az⟩:=ZX ((bF 0 [(V.sb:Int),(V.want:Int)] 0 []).length);subst aA;rw[<-az] at al;subst al;have ao:=Y p;have aF:=Y ad;clear p ad am aB ai;have⟨j,r⟩:=ZX ((d.alloc (.cells #[V.sb,V.want] 223)).alloc (.cells #[Zi,Zs,Zs] 308));have D2:H_ (OS d j):=(by rw[r];exact(af).alloc (by simp) _);have B2:H_ (Bx j d #[V.sb,V.want] 223):=(by rw[r];exact(Bx.new d _ _).alloc _);have C2:=Y (show Bx j (d+1) #[Zi,Zs,Zs] 308 by
  rw[r];have h:=Bx.new (d.alloc (.cells #[V.sb,V.want] 223)) #[Zi,Zs,Zs] 308;rw[dl] at h;exact h)
 have H:=Y (Q.t D2);go_upto_region 2 with fail;rw[<-r];have b:=Y (P.later H);have M2:=Y (HM.later H);have⟨F,v,N,A,B,I⟩:=b.bx.cells;have xz:=Bx.frozen b.bx;clear F v B I;have⟨b0,b1⟩:=B2.pair;have ax:¬d=g:=by
  have h1:=Bx.lt P.bx;have h2:=Q.size;omega
 have aE:¬g=d:=λe=>ax e.symm
 have⟨t,E⟩:=ZX ((j.setCell (g,2) (Zb (V.sb:Int))).setCell (g,3) (Zb (V.want:Int)));have G3:H_ (j.grownBy t (some g)):=(by rw[E];exact ak (ak (au _) _ _) _ _);have q:=Y (Ex.one G3);have X3:H_ (Obx t g ab n (V.sb:Int) (V.want:Int) na nn nc ha M hc):=(by rw[E];exact Bx.set (Bx.set b.bx 2 _) 3 _);have M3:=Y (M2.eW q X3 iz);have aj:∀f,f=g->W f:=λf e=>by rw[e];exact b.sub _ b.aO
 have R3:=Y (b.r.ext q aj (λe=>b.ne e.symm));have E3:=Y (show Ex Z w t from(Ex.below (S:=Z) H).chain q (λf _ e=>by rw[e];exact b.aO));have V3:=Y (show dN W d (bb,U,BN,O) (some (bF 0 [(V.sb:Int),(V.want:Int)] 0 [])) from(dN.of ao HM (OJ _) (eL) (fR (ir w) ay)));have VF:=Y (show dN W t (bb,U,BN,O) (some (bF 0 [(V.sb:Int),(V.want:Int)] 0 [])) from by
  have⟨a',o,hv,hb,hc⟩:=V3.o;exact⟨a',o,hv,(hb.ext (Ex.below D2)).ext (q.mono (λf _ e=>aj f e)),hc⟩)
 go_wp2_with fail;refine(gj A aq).mono ?_;rintro e wz ⟨rfl,hz⟩;obtain rfl:=hz.symm;clear hz;go_wp2;rw[<-E];exact UM (by simp[results,results197,go_sem]) rfl ⟨_,rfl,⟨M3,⟨ab,na,nn,nc,ha,M,hc,X3,R3,b.aO,b.ag,b.sub⟩,E3⟩,VF⟩
theorem EA(hm:Mut W w)(ho:OtW Z W w g n X V)(hl:Bytes w a k l)(aZ:k<=2000)(aH:k<=m)(av:(V.sb:Int)<=2147483647)(aN:(V.want:Int)<=2147483647)(ay:Msg l (V.sb:Int) (V.want:Int) x L c R)(a5:(V.want:Int)+1<2147483647){o1:Of_}(aC:o1.sb=V.sb/\o1.want=V.want/\o1.bd=false)(ht:∀(q:W_) (h:Option A_) (b c1:Nat) (f:Option A_) (c2:Nat),Mut W q->OtW Z W q g n X V->aD q h b L->bm q f c R->b<=c1->c<=c2->C_ prog 229 #[(g,0),.agg #[x,.slice h b c1,.slice f c c2]] q λe I=>e=Zv Zn/\H_ (OtD Z W q I g n X o1)):
 C_ prog 197 #[(g,0),(a,k,m)] w λe I=>∃an,e=Zr #[an,Zn]/\H_ (OtD Z W w I g n X {o1 with want:=V.want+1})/\H_ (dN W I an (some (bF 0 [(V.sb:Int),(V.want:Int)+1] 0 []))):=by
 have HM:=Y hm;have HO:=Y ho;have HL:=Y hl;have⟨a0,na,nn,nc,ha,hn,hc,ap⟩:=ho;have HX:=Y ap;have⟨C,s,H,v,A,E⟩:=ap.bx.cells;have aI:((V.want:Int)==2147483647)=false:=by simp;omega
 have ab:=Y ay;have HT:=Y ht;have ar:=Y aC;have aP:=Y (sI (x:=(V.sb:Int)) (y:=(V.want:Int)+1) (by omega) av (by omega) (by omega));clear ay ht aC;clear hm hl ap C s A E;have a7:∀(w:W_) (a:Option A_) (n aq n' t:Nat),(binOp .eql 26 (a,n,aq) (.slice none n' t)).run prog w=.ok (Zl a.isNone) w:=λw a n aq n' t=>Lib.run_eql_slice_nil w _ _ a n aq n' t Tryz.underlying26
 go_enter func197,ntmps197;go_wp2_with fail;refine(iP HL aZ aH (by omega) av (by omega) aN).mono ?_;clear H v;rintro e d ⟨p,E1⟩;have ag:=Y E1;clear E1;obtain⟨h,b,c1,f,c2,r,rfl,U,G,M,T,B⟩:∃h b c1 f c2 r,e=Zr #[.agg #[V.sb,Zb ((V.want:Int)+1)],.agg #[x,.slice h b c1,.slice f c c2],Zl true,r,Zn]/\aD d h b L/\bm d f c R/\b<=c1/\c<=c2/\Own d w r (bF 0 [(V.sb:Int),(V.want:Int)+1] 0 []):=by
  rcases p with ⟨aW,aM,aL,aF,an,r,i,a6,he,aS,B⟩|⟨x',aW,aM,aL,aF,r,i,aT,_⟩|⟨i,_⟩
  ·obtain⟨_,_,rfl,rfl,rfl,rfl⟩:=pY ab i;have⟨h,b,c1,f,c2,hv,U,G,M,T,_⟩:=aS;subst hv;exact⟨h,b,c1,f,c2,r,he,U,G,M,T,B⟩
  ·exact absurd ⟨(pY ab i).2.1.symm,by omega⟩ aT
  ·exact absurd ab (i _ _ _ _ _)
 clear p;have aX:=Y U;have aK:=Y G;have aQ:=Y M;have aJ:=Y T;clear U G M T;have⟨ba,bc,aB,aw,aE,aV⟩:=Own.br B;have az:=eL (x:=0) (L:=[(V.sb:Int),(V.want:Int)+1]) (n:=0) (O:=[]);have⟨bb,bo,aU,_⟩:=aE.2.2.2 az;have⟨BN,aR⟩:=ZX ((bF 0 [(V.sb:Int),(V.want:Int)+1] 0 []).length);subst aU;rw[<-aR] at aB;subst aB;have aG:=Y B;have a4:=Y aw;clear B aw aE aV az;have⟨J,P⟩:=ZX ((d.alloc (.cells #[V.sb,Zb ((V.want:Int)+1)] 223)).alloc (.cells #[x,.slice h b c1,.slice f c c2] 308));have O:H_ (OS d J):=(by rw[P];exact(af).alloc (by simp) _);have B2:H_ (Bx J d #[V.sb,Zb ((V.want:Int)+1)] 223):=(by rw[P];exact(Bx.new d _ _).alloc _);have C2:=Y (show Bx J (d+1) #[x,.slice h b c1,.slice f c c2] 308 by
  rw[P];have i:=Bx.new (d.alloc (.cells #[V.sb,Zb ((V.want:Int)+1)] 223)) #[x,.slice h b c1,.slice f c c2] 308;rw[dl] at i;exact i)
 have Q:=Y (ag.t O);go_upto_region 2 with fail;rw[<-P];have X2:=Y (HX.later Q);have M2:=Y (HM.later Q);have⟨C,s,H,v,A,E⟩:=X2.bx.cells;clear C s H A E;have⟨f0,f1,f2⟩:=C2.three;go_wp2_with fail;refine(gj v aI).mono ?_;rintro e wz ⟨rfl,hz⟩;obtain rfl:=hz.symm;clear hz v;go_wp2_with fail;refine(HT J h b c1 f c2 M2 (HO.later Q) (aX.later O) (aK.later O) aQ aJ).mono ?_;rintro e w4 ⟨rfl,F⟩;clear f0 f1 f2;have B4:=Y (show Bx w4 d #[V.sb,Zb ((V.want:Int)+1)] 223 from Ex.bx F.ext B2 (λhb=>by
  have h1:=HX.sub _ hb;have h2:=HM.lt _ h1;have h3:=ag.size;omega))
 have⟨g4,ah,ai,ao,am,aj,ad,N⟩:=F.ot;have j:=Y N;have⟨C,s,H,v,A,E⟩:=N.bx.cells;have xz:=Bx.frozen N.bx;clear N C s A E;have⟨b0,b1⟩:=B4.pair;have aO:¬d=g:=by
  have h1:=Bx.lt HX.bx;have h2:=ag.size;omega
 have a3:¬g=d:=λe=>aO e.symm
 have⟨D,al⟩:=ZX ((w4.setCell (g,2) (Zb (V.sb:Int))).setCell (g,3) (Zb ((V.want:Int)+1)));have G5:H_ (w4.grownBy D (some g)):=(by rw[al];exact ak (ak (au _) _ _) _ _);have S:=Y (Ex.one G5);have ax:((V.want+1:Nat):Int)=(V.want:Int)+1:=by push_cast;rfl
 have X5:=Y (show Obx D g g4 n (o1.sb:Int) ((V.want+1:Nat):Int) ah ai ao am aj ad by
  rw[al,ax,ar.1];exact Bx.set (Bx.set j.bx 2 _) 3 _)
 have M5:=Y (F.mu.eW S X5 iz);have aA:∀o,o=g->W o:=λo e=>by rw[e];exact j.sub _ j.aO
 have R5:=Y (show OtR W D n X {o1 with want:=V.want+1} g4 ah ai ao am aj ad from by
  have p:=j.r.ext S aA (λe=>j.ne e.symm);refine⟨p.nd,p.nu,p.nc,p.hd,p.hc,?_⟩;show o1.bd=_
  rw[ar.2.2];simp;omega)
 have E5:=Y (show Ex Z w D from((Ex.below (S:=Z) Q).chain F.ext (λ_ _ i=>i)).chain S (λo _ e=>by rw[e];exact j.aO));have V3:=Y (show dN W d (bb,bo,BN,bc) (some (bF 0 [(V.sb:Int),(V.want:Int)+1] 0 [])) from(dN.of aG HM (OJ _) (eL) (fR (ir w) aP)));have VF:=Y (show dN W D (bb,bo,BN,bc) (some (bF 0 [(V.sb:Int),(V.want:Int)+1] 0 [])) from by
  have⟨a',t,hv,hb,hc⟩:=V3.o;exact⟨a',t,hv,((hb.ext (Ex.below O)).ext (F.ext.mono (λo _ e=>j.sub o e))).ext (S.mono (λo _ e=>aA o e)),hc⟩)
 clear ax;go_wp2;rw[<-al];exact UM (by simp[results,results197,go_sem]) rfl ⟨_,rfl,⟨M5,⟨g4,ah,ai,ao,am,aj,ad,X5,R5,j.aO,j.ag,j.sub⟩,E5⟩,VF⟩
end
section
open Go.RowKit Go.ChangeMaps
theorem Be(r:Mut W w)(h:OtW Z W w g n X V)(d:Bytes w a k l)(I:k<=2000)(y:k<=m)(f:∀F G D x,¬aI l F G D x):
 C_ prog 152 #[(g,0),(a,k,m)] w λe i=>∃v,e=Zr #[v,Zn]/\H_ (OtD Z W w i g n X V)/\H_ (dN W i v none):=by
 have B:=Y r;have E:=Y h;have A:=Y d;have H:=Y f;clear f;clear r h d;go_enter func152,ntmps152;go_wp2_with fail;refine(dM A I y).mono ?_;rintro e p o;obtain⟨rfl,j⟩:e=Zr #[.agg #[Zi,Zs,Zs],Zf 3]/\OS w p:=by
  rcases o with ⟨Q,S,O,M,P,c1,K,c2,c,z,_⟩|⟨c,_,t⟩
  ·exact absurd z (H _ _ _ _)
  ·exact⟨c,t⟩
 have C:=Y j;clear o j;have⟨R,b⟩:=ZX (p.alloc (.cells #[Zi,Zs,Zs] 308));have s:=beA b;have N:=bxA b;have J:=Y (C.t s);go_upto_region 2 with fail;rw[<-b];go_wp2;exact UM (by simp[results,results152,go_sem]) rfl ⟨_,rfl,(OtD.same B E J),Y rfl⟩
theorem Bf(C:Mut W w)(D:OtW Z W w g n X V)(s:Bytes w a k l)(ad:k<=2000)(G:k<=m)(t:aI l 2 [(c:Int)] 0 [])(hs:(c:Int)<=2147483647)(P:(V.back:Int)<=2147483647):
 C_ prog 152 #[(g,0),(a,k,m)] w λe x=>∃v,e=Zr #[v,Zn]/\H_ (OtD Z W w x g n X (ft V c))/\H_ (dN W x v (fM V c)):=by
 have J:=Y C;have HO:=Y D;have HL:=Y s;have B:=Y t;clear t;clear C D s;go_enter func152,ntmps152;go_wp2_with fail;refine(dM HL ad G).mono ?_;rintro e i A;obtain⟨b,c1,d,c2,rfl,f,E⟩:∃b c1 d c2,e=Zr #[.agg #[Zb 2,.slice b [(c:Int)].length c1,.slice d 0 c2],Zn]/\aD i b [(c:Int)].length [(c:Int)]/\OS w i:=by
  rcases A with ⟨ai,ag,ah,af,b,c1,d,c2,S,H,f,_,_,_,_,_,T⟩|⟨_,U,_⟩
  ·obtain⟨rfl,rfl,rfl,rfl⟩:=aI.one B H;exact⟨b,c1,d,c2,S,f,T⟩
  ·exact absurd B (U _ _ _ _)
 have M:=Y E;have ab:=Y f;clear A f E;have⟨O,h⟩:=ZX (i.alloc (.cells #[Zb 2,.slice b 1 c1,.slice d 0 c2] 308));have r:=beA h;have I:=bxA h;have j:=Y (M.t r);go_upto_region 2 with fail;rw[<-h];have⟨Q,f1,K⟩:=I.three;have⟨z,F,N,R,y⟩:=ab.2.2 (by simp);subst N;have j0:O.cell? (z,F)=Zb (c:Int):=(r.cell (p:=(z,F)) R).trans (by simpa using y 0 (by simp));clear y;go_wp2_with fail;refine(Eu (J.later j) (HO.later j) hs P).mono ?_;rintro e w3 ⟨v,rfl,o,V3⟩;clear Q f1 K j0;go_wp2;exact UM (by simp[results,results152,go_sem]) rfl ⟨_,rfl,⟨o.mu,o.ot,(Ex.below j).trans o.ext⟩,V3⟩
theorem Et(B:Mut W w)(D:OtW Z W w g n X V)(s:Bytes w a k l)(ad:k<=2000)(G:k<=m)(t:aI l 1 L c R){o1:Of_}{y:Option (List Int)}(z:∀d:W_,Mut W d->OtW Z W d g n X V->Bytes d a k l->C_ prog 197 #[(g,0),(a,k,m)] d λe f=>∃v,e=Zr #[v,Zn]/\H_ (OtD Z W d f g n X o1)/\H_ (dN W f v y)):
 C_ prog 152 #[(g,0),(a,k,m)] w λe f=>∃v,e=Zr #[v,Zn]/\H_ (OtD Z W w f g n X o1)/\H_ (dN W f v y):=by
 have J:=Y B;have HO:=Y D;have C:=Y s;have A:=Y t;have M:=Y z;clear t z;clear B D s;go_enter func152,ntmps152;go_wp2_with fail;refine(dM C ad G).mono ?_;rintro e p x;obtain⟨b,c1,h,c2,rfl,j,E⟩:∃b c1 h c2,e=Zr #[.agg #[Zb 1,.slice b L.length c1,.slice h c c2],Zn]/\aD p b L.length L/\OS w p:=by
  rcases x with ⟨ai,ag,ah,af,b,c1,h,c2,Q,H,j,_,_,_,_,_,S⟩|⟨_,U,_⟩
  ·obtain⟨rfl,rfl,rfl,rfl⟩:=aI.one A H;exact⟨b,c1,h,c2,Q,j,S⟩
  ·exact absurd A (U _ _ _ _)
 have N:=Y E;have aj:=Y j;clear x j E;have⟨T,ab⟩:=ZX L.length;rw[<-ab];have⟨O,o⟩:=ZX (p.alloc (.cells #[Zb 1,.slice b T c1,.slice h c c2] 308));have F:=beA o;have I:=bxA o;have i:=Y (N.t F);go_upto_region 2 with fail;rw[<-o];have⟨P,f1,K⟩:=I.three;go_wp2_with fail;refine(M O (J.later i) (HO.later i) (C.later i)).mono ?_;rintro e w3 ⟨v,rfl,r,V3⟩;clear P f1 K;go_wp2;exact UM (by simp[results,results152,go_sem]) rfl ⟨_,rfl,⟨r.mu,r.ot,(Ex.below i).trans r.ext⟩,V3⟩
end
section
open Go.RowKit Go.ChangeMaps
def JD:Code->Code
 |.block _ (.seq _ (.cond _ _ (.seq _ (.cond _ _ d))))=>d
 |c=>c
theorem CY{c':Code}(h:G=c')(hs:Code.wp prog c' S O w):Code.wp prog G S O w:=h▸hs
theorem phd(aw:H_ (PrW Z W u g n X U T))(ao:H_ (Mut W u))(av:H_ (Bytes u a k l))(aE:k<=2000)(ay:k<=m)(FV:H_ (OS w u))(aA:H_ (bO ⟨(T.s:Int),(T.base:Int),T.queue⟩=0))(HG:H_ (kl (T.s:Int) (T.base:Int) T.queue.length l c)){OX Pa Pb Pc Pd Pe Pf Pg Ph Pj Pl Pm Pn Po Pp Pq Ps Pu Pv Pw Px Py Pz PE PG PH PI PJ PK PM PO PQ PR PS PT PU PX PY PZ P9 Qa Qb Qc Qd Qe Qf Qg Qh Qi Qj Qk Ql Qm Qn Qo Qp Qq Qr Qs Qt Qu Qv Qw Qx Qy Qz QA QC QE QF QG QH QI QJ QK QM QO QP QQ QR:V_}(hK:∀t r,Code.wp prog (M8 (JD (Hm (kC 4 (Tryz.f151.body.getD .skip))))) S t r->F t r)(hQ:∀(v8 v9 Rt Ru Rv Rs Rx Ry Rz RA RB RC RE RF RG RH RJ RM:V_) (r:W_),H_ (Mut W r/\PrW Z W r g n X U {T with base:=T.base+c,queue:=T.queue.drop c}/\Ex Z w r)->S .normal ⟨#[(g,0),(a,k,m),v,P,H,p,o,f,v8,v9,OX,Pa,Pb,Pc,Pd,Pe,Pf,Pg,Ph,Pj,Pl,Pm,Rt,Ru,Rv,Rs,Rx,Ry,Rz,RA,RB,RC,RE,RF,RG,RH,RJ,RM,PK,PM,PO,PQ,PR,PS,PT,PU,PX,PY,PZ,P9,Qa,Qb,Qc,Qd,Qe,Qf,Qg,Qh,Qi,Qj,Qk,Ql,Qm,Qn,Qo,Qp,Qq,Qr,Qs,Qt,Qu,Qv,Qw,Qx,Qy,Qz,QA,QC,QE,QF,QG,QH,QI,QJ,QK,QM,QO,QP,QQ,QR],[]⟩ r):
 Code.wp prog (Hm (JD (Hm (kC 4 (Tryz.f151.body.getD .skip))))) (Exit.then F S) ⟨#[(g,0),(a,k,m),v,P,H,p,o,f,e,d,OX,Pa,Pb,Pc,Pd,Pe,Pf,Pg,Ph,Pj,Pl,Pm,Pn,Po,Pp,Pq,Ps,Pu,Pv,Pw,Px,Py,Pz,PE,PG,PH,PI,PJ,PK,PM,PO,PQ,PR,PS,PT,PU,PX,PY,PZ,P9,Qa,Qb,Qc,Qd,Qe,Qf,Qg,Qh,Qi,Qj,Qk,Ql,Qm,Qn,Qo,Qp,Qq,Qr,Qs,Qt,Qu,Qv,Qw,Qx,Qy,Qz,QA,QC,QE,QF,QG,QH,QI,QJ,QK,QM,QO,QP,QQ,QR],[]⟩ u:=by
 have HQ:=Y @hQ;have aH:∀t r,Code.wp prog _ S t r->F t r:=λt r ad=>hK t r (CY (c':=.seq _ _) rfl ad)
 clear hQ hK;have⟨ag,oa,on,oc,R,sn,sc,M,qa,qn,qc,K,hn,hc,an⟩:=aw.o;have B:=Y an;clear an;have⟨O,x1,x2,x3,x4,x5,x6,x7,x8,x9,am,ab,Q,V⟩:=B.bx.cells;clear O x1 x2 x3 x4 x5 x6 x7 ab Q V;refine CY (c':=.region _ _ _) rfl ?_;go_wp2_with fail;have ah:H_ (bO ⟨(T.s:Int),(T.base:Int),T.queue⟩=0):=aA.o;refine(AS (x:=(T.s:Int)) (y:=(T.base:Int)) T.queue B.r.qu.fl B.r.qc av aE ay).mono ?_;rintro s I ⟨aF,rfl,S5,E5⟩;obtain⟨b,ar,ap⟩:∃b,kl (T.s:Int) (T.base:Int) qn l b/\SdA u I aF ⟨(T.s:Int),(T.base:Int)+(b:Int),T.queue.drop b⟩:=by
  rcases S5 with ⟨z,_⟩|⟨_,b,z,h8⟩
  ·exact absurd ah z
  ·exact⟨b,z,h8⟩
 have hge:b=c:=by
  have z:=HG.o;rw[B.r.qu.1] at z;exact Hn ar z
 subst hge;have⟨E,C,G,aD,aj,aq⟩:=ap.sdo ao (OJ _);subst aD;have az:=Y aj;have aC:=Y aq;rw[ah,aQ];clear S5 ar ap aj aq ah x8 x9 am;have⟨W6,ai⟩:=ZX (I.alloc (.cells #[T.s,Zb ((T.base:Int)+(b:Int)),(E,C,G)] 237));have D6:=beA ai;have C6:=bxA ai;have N:=Y (E5.t D6);have h:=Y (B.later N);have M6:=Y (ao.later N);go_upto_region 6 with fail;rw[<-ai];have⟨O,x1,x2,x3,x4,x5,x6,x7,x8,x9,am,ab,Q,V⟩:=h.bx.cells;have xz:=Bx.frozen h.bx;clear O x1 x2 x3 x4 x5 x6 x7 ab Q V;have⟨s0,s1,s2⟩:=C6.three;have aB:¬I=g:=by
  have z:=Bx.lt B.bx;have h8:=E5.size;omega
 have aG:¬g=I:=λs=>aB s.symm
 have⟨D,af⟩:=ZX (((W6.setCell (g,8) (Zb (T.s:Int))).setCell (g,9) (Zb ((T.base:Int)+(b:Int)))).setCell (g,10) (E,C,G));have G7:H_ (W6.grownBy D (some g)):=(by rw[af];exact ak (ak (ak (au _) _ _) _ _) _ _);have J:=Y (Ex.one G7);have ax:((T.base+b:Nat):Int)=(T.base:Int)+(b:Int):=by push_cast;rfl
 have X7:=Y (show Pbx D g ag n U.num oa on oc R sn sc U.be M (T.safe:Int) (T.s:Int) ((T.base+b:Nat):Int) E C G T.known (T.goal:Int) K hn hc by
  rw[af,ax];exact((Bx.set h.bx 8 _).set 9 _).set 10 _)
 have M7:=Y (M6.eW J X7 gF);have al:∀U,U=g->W U:=λU s=>by rw[s];exact h.sub _ h.aP
 have R7:=Y (show PrR W D n X U {T with base:=T.base+b,queue:=T.queue.drop b} ag oa on oc R sn sc M E C G K hn hc from by
  have A:=h.r.ext J al (λs=>h.ne.1 s.symm) (λs=>h.ne.2.1 s.symm);exact⟨A.nd,A.bu,A.mp,(az.sB (Ex.below D6)).sB (J.mono (λU _ s=>al U s)),aC,A.hd,A.hc,A.num⟩)
 have PW:=Y (show PrW Z W D g n X U {T with base:=T.base+b,queue:=T.queue.drop b} from⟨ag,oa,on,oc,R,sn,sc,M,E,C,G,K,hn,hc,X7,R7,h.aP,h.ag,h.am,h.sub⟩);have E7:=Y (show Ex Z w D from((Ex.below (S:=Z) FV).chain (Ex.below (S:=Z) N) (λ_ _ ad=>ad)).chain J (λU _ s=>by rw[s];exact h.aP));go_wp2_with fail;rw[<-af];exact HQ _ _ _ _ _ _ _ _ _ _ _ _ _ _ _ _ _ _ _ (⟨M7,PW,E7⟩)
theorem qZ{o1 c1 o2:Nat}(c2:Nat)(h1:w.cell? (n,o1)=Zb x)(h2:w.cell? (g,o2)=Zb y)(k:n<w)(f:g<w)(_:1<=c1)(_:1<=c2):
 C_ prog 193 #[(n,o1,1,c1),(g,o2,1,c2)] w λh d=>h=Zv (Zl (decide (x=y)))/\H_ (OS w d):=by
 have j:=Y h1;have e:=Y h2;clear h1 h2;go_enter func193,ntmps193;go_wp2;go_loopw [13] (λt wr=>(t=Zb 0\/(t=Zb 1/\H_ (x=y)))/\H_ (OS w wr)) (λt _=>1-(intOf t).toNat)
 case atStart=>exact⟨.inl rfl,ce _ _⟩
 case round=>
  have⟨i,b⟩:=hrel;rcases i with rfl|⟨rfl,l⟩
  ·have m:=(b.cell (p:=(n,o1)) k).trans j;have o:=(b.cell (p:=(g,o2)) f).trans e;by_cases a:x=y
   ·have hd:(x !=y)=false:=by simpa using a
    have c:=Y a;clear a;go_upto_region 6 with fail;go_quiet (fail);go_wp2;go_roundw
    case rel=>exact⟨.inr ⟨rfl,c⟩,(below_drewN b _)⟩
    case measure=>simp[intOf]
   ·have hd:(x !=y)=true:=by simpa using a
    have c:=Y a;clear a;go_upto_region 6 with fail;go_quiet (fail);go_wp2;go_ret;exact⟨by rw[UQ c]<;>rfl,(below_drewN b _)⟩
  ·go_wp2;go_ret;exact⟨by rw[UR l.o]<;>rfl,b⟩
theorem Bw(p:Mut W w)(f:PrW Z W w g n X U T)(d:Bytes w a k l)(H:k<=2000)(v:k<=m)(h:∀E F D t,¬aI l E F D t):
 C_ prog 151 #[(g,0),(a,k,m)] w λe C=>e=Zv Zn/\H_ (PrD Z W w C g n X U T):=by
 have A:=Y p;have z:=Y f;have y:=Y d;have G:=Y h;clear h;clear p f d;go_enter func151,ntmps151;go_wp2_with fail;refine(dM y H v).mono ?_;rintro e o j;obtain⟨rfl,i⟩:e=Zr #[.agg #[Zi,Zs,Zs],Zf 3]/\OS w o:=by
  rcases j with ⟨P,R,N,K,O,c1,J,c2,c,x,_⟩|⟨c,_,s⟩
  ·exact absurd x (G _ _ _ _)
  ·exact⟨c,s⟩
 have B:=Y i;clear j i;have⟨Q,b⟩:=ZX (o.alloc (.cells #[Zi,Zs,Zs] 308));have r:=beA b;have M:=bxA b;have I:=Y (B.t r);go_upto_region 2 with fail;rw[<-b];go_wp2;exact UM (by simp[results,results151,go_sem]) rfl ⟨rfl,(PrD.same A z I)⟩
theorem Bv(M:Mut W w)(F:PrW Z W w g n X U T)(Q:Bytes w a k l)(az:k<=2000)(ai:k<=m)(hF:aI l 4 [(c:Int)] 0 [])(hs:c=T.s)(R:((T.s+1:Nat):Int)<=2147483647)(I:(T.ar:Int)<=2147483647):
 C_ prog 151 #[(g,0),(a,k,m)] w λe w'=>e=Zv Zn/\H_ (PrD Z W w w' g n X U ⟨T.ar,T.s+1,T.safe,false,T.goal,0,[],[]⟩):=by
 have HM:=Y M;have V:=Y F;have HL:=Y Q;have J:=Y hF;clear hF;have HS:=Y hs;have N:=Y R;have av:=Y I;clear hs R I;clear M F Q;go_enter func151,ntmps151;go_wp2_with fail;refine(dM HL az ai).mono ?_;rintro e B H;obtain⟨b,c1,h,c2,K,rfl,s,af⟩:∃b c1 h c2,1<=c1/\e=Zr #[.agg #[Zb 4,.slice b [(c:Int)].length c1,.slice h 0 c2],Zn]/\aD B b [(c:Int)].length [(c:Int)]/\OS w B:=by
  rcases H with ⟨aH,aE,aG,aA,b,c1,h,c2,he,hf,s,_,_,_,ap,_,hE⟩|⟨_,aw,_⟩
  ·obtain⟨rfl,rfl,rfl,rfl⟩:=aI.one J hf;exact⟨b,c1,h,c2,ap,he,s,hE⟩
  ·exact absurd J (aw _ _ _ _)
 have aj:=Y af;have ay:=Y s;have au:=Y K;clear H s af K;have⟨f,A⟩:=ZX (B.alloc (.cells #[Zb 4,.slice b 1 c1,.slice h 0 c2] 308));have i:=beA A;have C2:=bxA A;have D:=Y (aj.t i);go_upto_region 2 with fail;rw[<-A];have⟨d,r,ar,C,ad⟩:=ay.2.2 (by simp);subst ar;have O:f.cell? (d,r)=Zb (c:Int):=(i.cell (p:=(d,r)) C).trans (by simpa using ad 0 (by simp));have ah:=Y (V.later D);have M2:=Y (HM.later D);have⟨aF,oa,on,oc,sa,sn,sc,aC,qa,qn,qc,ha,hn,hc,ab⟩:=ah.o;have HX:=Y ab;clear ab;have⟨x0,x1,x2,x3,x4,x5,x6,x7,x8,x9,al,ak,am,ax⟩:=HX.bx.cells;have⟨f0,f1,f2⟩:=C2.three;have an:1<=c1:=au.o;clear ad x0 x1 x2 x3 x4 x5 x6 x7 x9 al ak am ax;have⟨p,o⟩:=ZX (f.alloc (.cells #[T.s] 3));have z:=beA o;have S:p.cell? f=Zb (T.s:Int):=by
  rw[o];exact(Bx.new f #[T.s] 3).cell 0
 have P:p.cell? (d,r)=Zb (c:Int):=(z.cell (p:=(d,r)) (OE C i.size)).trans O;have aq:f<p.heap.size:=by rw[o];simp
 have ao:d<p:=OE C (OP i.size z.size);go_wp2_with fail;rw[<-o];refine(qZ 1 P S ao aq an (by omega)).mono ?_;rintro e w4 ⟨rfl,E4⟩;have F4:=Y (z.t E4);have G:decide ((c:Int)=(T.s:Int))=true:=by
  exact UR (by rw[HS])
 rw[G];clear G;have v:=Y (D.t F4);have aB:(T.s:Int)+1<=2147483647:=by have h9:=N.o;omega
 clear f0 f1 f2 O S P;go_wp2_with fail;have E:=IJ T (HM.later v) (V.later v) N av;have ag:((T.s+1:Nat):Int)=(T.s:Int)+1:=by push_cast;rfl
 rw[ag] at E;refine E.mono ?_;clear E ag;rintro e w6 ⟨rfl,t⟩;go_wp2_with fail;exact UM (by simp[results,results151,go_sem]) rfl ⟨rfl,⟨t.mu,t.pr,(Ex.below v).trans t.ext⟩⟩
theorem Bz(hm:Mut W w)(hp:PrW Z W w g n X U T)(hl:Bytes w a k l)(am:k<=2000)(ad:k<=m)(hF:aI l 4 [(c:Int)] 0 [])(hs:c≠T.s)(hb:aY U n=0)(ag:T.known=true->T.goal<=T.ar)(hh:(T.ar:Int)<=2147483647)(ai:bO ⟨(T.s:Int),(T.base:Int),T.queue⟩=0)(hG:kl (T.s:Int) (T.base:Int) T.queue.length l j):
 C_ prog 151 #[(g,0),(a,k,m)] w λe w'=>e=Zv Zn/\H_ (PrD Z W w w' g n X (fA U {T with base:=T.base+j,queue:=T.queue.drop j}) (Mir.bA {T with base:=T.base+j,queue:=T.queue.drop j})):=by
 have HM:=Y hm;have HP:=Y hp;have HL:=Y hl;have HF:=Y hF;clear hF;have HS:=Y hs;clear hs;have aq:=Y hb;have ao:=Y ag;have aB:=Y hh;have au:=Y ai;have HG:=Y hG;clear hb ag hh ai hG;clear hm hp hl;go_enter func151,ntmps151;go_wp2_with fail;refine(dM HL am ad).mono ?_;rintro e M ht;obtain⟨b,c1,h,c2,ah,rfl,v,al⟩:∃b c1 h c2,1<=c1/\e=Zr #[.agg #[Zb 4,.slice b [(c:Int)].length c1,.slice h 0 c2],Zn]/\aD M b [(c:Int)].length [(c:Int)]/\OS w M:=by
  rcases ht with ⟨aL,aH,aK,aF,b,c1,h,c2,he,hf,v,_,_,_,ax,_,hE⟩|⟨_,aC,_⟩
  ·obtain⟨rfl,rfl,rfl,rfl⟩:=aI.one HF hf;exact⟨b,c1,h,c2,ax,he,v,hE⟩
  ·exact absurd HF (aC _ _ _ _)
 have ap:=Y al;have aE:=Y v;have aA:=Y ah;clear ht v al ah;have⟨f,K⟩:=ZX (M.alloc (.cells #[Zb 4,.slice b 1 c1,.slice h 0 c2] 308));have p:=beA K;have J:=bxA K;have P:=Y (ap.t p);go_upto_region 2 with fail;rw[<-K];have⟨d,t,az,O,ak⟩:=aE.2.2 (by simp);subst az;have j0:f.cell? (d,t)=Zb (c:Int):=(p.cell (p:=(d,t)) O).trans (by simpa using ak 0 (by simp));have an:=Y (HP.later P);have M2:=Y (HM.later P);have⟨aJ,oa,on,oc,sa,sn,sc,aG,qa,qn,qc,ha,hn,hc,aj⟩:=an.o;have HX:=Y aj;clear aj;have⟨N,C,z,F,G,S,R,A,x8,x9,af,B,D,Q⟩:=HX.bx.cells;have⟨f0,f1,f2⟩:=J.three;have av:1<=c1:=aA.o;clear ak N C z F G S R A x9 af B D Q;have⟨s,r⟩:=ZX (f.alloc (.cells #[T.s] 3));have I:=beA r;have k0:s.cell? f=Zb (T.s:Int):=by
  rw[r];exact(Bx.new f #[T.s] 3).cell 0
 have k1:s.cell? (d,t)=Zb (c:Int):=(I.cell (p:=(d,t)) (OE O p.size)).trans j0;have ay:f<s.heap.size:=by rw[r];simp
 have aw:d<s:=OE O (OP p.size I.size);go_wp2_with fail;rw[<-r];refine(qZ 1 k1 k0 aw ay av (by omega)).mono ?_;rintro e w4 ⟨rfl,E4⟩;have o:=Y (I.t E4);have ab:decide ((c:Int)=(T.s:Int))=false:=by
  exact UQ (by have h9:=HS.o;omega)
 rw[ab];clear ab;have i:=Y (P.t o);have X4:=Y (HX.later o);have M4:=Y (M2.later o);have ar:=Y (HL.later i);have C4:=Y (J.later o J.lt);clear f0 f1 f2 j0 k0 k1 x8;have⟨N,C,z,F,G,S,R,A,x8,x9,af,B,D,Q⟩:=X4.bx.cells;have⟨f0,f1,f2⟩:=C4.three;clear N C z F G S R A B D Q;go_upto_region 5 with fail;refine phd (HP.later i) (HM.later i) ar am ad i au HG (by assumption) ?_;intro v8 v9 Rt Ru Rv Rs Rx Ry Rz RA RB RC RE RF RG RH RJ RM x' H;go_wp2_with fail;refine(iR H.1 H.2.1 aq ao aB).mono ?_;rintro e w8 ⟨rfl,E⟩;go_wp2_with fail;exact UM (by simp[results,results151,go_sem]) rfl ⟨rfl,⟨E.mu,E.pr,H.2.2.trans E.ext⟩⟩
theorem ET(hm:Mut W w)(R:PrW Z W w g n X U T)(hl:Bytes w a k l)(ay:k<=2000)(aj:k<=m)(hF:aI l 3 [(c:Int),(h:Int)] 0 [])(hs:c=T.s)(hk:T.known=false)(hb:aY U n=0)(ab:h<=T.ar)(hh:(T.ar:Int)<=2147483647):
 C_ prog 151 #[(g,0),(a,k,m)] w λe w'=>e=Zv Zn/\H_ (PrD Z W w w' g n X (fA U {T with known:=true,goal:=h}) (Mir.bA {T with known:=true,goal:=h})):=by
 have HM:=Y hm;have HP:=Y R;have HL:=Y hl;have HF:=Y hF;clear hF;have HS:=Y hs;have HK:=Y hk;have am:=Y hb;have ai:=Y ab;have ar:=Y hh;clear hs hk hb ab hh;clear hm R hl;go_enter func151,ntmps151;go_wp2_with fail;refine(dM HL ay aj).mono ?_;rintro e K ht;obtain⟨f,c1,i,c2,rfl,s,ag⟩:∃f c1 i c2,e=Zr #[.agg #[Zb 3,.slice f [(c:Int),(h:Int)].length c1,.slice i 0 c2],Zn]/\aD K f [(c:Int),(h:Int)].length [(c:Int),(h:Int)]/\OS w K:=by
  rcases ht with ⟨aF,aB,aC,az,f,c1,i,c2,he,hf,s,_,_,_,_,_,hE⟩|⟨_,av,_⟩
  ·obtain⟨rfl,rfl,rfl,rfl⟩:=aI.one HF hf;exact⟨f,c1,i,c2,he,s,hE⟩
  ·exact absurd HF (av _ _ _ _)
 have al:=Y ag;have ax:=Y s;clear ht s ag;have⟨p,I⟩:=ZX (K.alloc (.cells #[Zb 3,.slice f 2 c1,.slice i 0 c2] 308));have H:=beA I;have C2:=bxA I;have P:=Y (al.t H);go_upto_region 2 with fail;rw[<-I];have⟨o,r,aq,af,J⟩:=ax.2.2 (by simp);subst aq;have j0:p.cell? (o,r)=Zb (c:Int):=(H.cell (p:=(o,r)) af).trans (by simpa using J 0 (by simp));have j1:p.cell? (o,r+1)=Zb (h:Int):=(H.cell (p:=(o,r+1)) af).trans (by simpa using J 1 (by simp));clear J;have ah:=Y (HP.later P);have M2:=Y (HM.later P);have⟨E,F,A,M,x,G,D,v,Q,B,y,N,t,hc,ad⟩:=ah.o;have b:=Y ad;clear ad;have⟨x0,x1,x2,x3,x4,x5,x6,x7,x8,x9,an,S,ao,aw⟩:=b.bx.cells;have⟨f0,f1,f2⟩:=C2.three;rw[HK] at S;have xz:=Bx.frozen b.bx;have aA:((c:Int)==(T.s:Int))=true:=by rw[HS];simp
 have aE:(c==T.s)=true:=by rw[HS];simp
 clear x0 x1 x2 x3 x4 x5 x6 x7 x9 an aw;have⟨j,O⟩:=ZX ((p.setCell (g,11) (Zl true)).setCell (g,12) (Zb (h:Int)));have G3:H_ (p.grownBy j (some g)):=(by rw[O];exact ak (ak (au _) _ _) _ _);have z:=Y (Ex.one G3);have X3:=Y (show Pbx j g E n U.num F A M x G D U.be v (T.safe:Int) (T.s:Int) (T.base:Int) Q B y true (h:Int) N t hc by
  rw[O];exact(Bx.set b.bx 11 _).set 12 _)
 have M3:=Y (M2.eW z X3 gF);have ap:∀U,U=g->W U:=λU e=>by rw[e];exact b.sub _ b.aP
 have R3:=Y (show PrR W j n X U {T with known:=true,goal:=h} E F A M x G D v Q B y N t hc from by
  have d:=b.r.ext z ap (λe=>b.ne.1 e.symm) (λe=>b.ne.2.1 e.symm);exact⟨d.nd,d.bu,d.mp,d.qu,d.qc,d.hd,d.hc,d.num⟩)
 have PW:=Y (show PrW Z W j g n X U {T with known:=true,goal:=h} from⟨E,F,A,M,x,G,D,v,Q,B,y,N,t,hc,X3,R3,b.aP,b.ag,b.am,b.sub⟩);have E3:=Y (show Ex Z w j from(Ex.below (S:=Z) P).chain z (λU _ e=>by rw[e];exact b.aP));go_upto_region 13 with fail;rw[<-O];clear f0 f1 f2 j0 j1 x8 S ao xz;go_wp2_with fail;refine(iR M3 PW am (λ_=>ai) ar).mono ?_;rintro e w8 ⟨rfl,C⟩;go_wp2;exact UM (by simp[results,results151,go_sem]) rfl ⟨rfl,⟨C.mu,C.pr,E3.trans C.ext⟩⟩
theorem By(P:Mut W w)(F:PrW Z W w g n X U T)(hl:Bytes w a k l)(E:k<=2000)(v:k<=m)(hF:aI l 3 [(c:Int),(h:Int)] 0 [])(hs:c≠T.s\/T.known=true)(hb:aY U n=0)(K:T.known=true->T.goal<=T.ar)(N:(T.ar:Int)<=2147483647)(S:bO ⟨(T.s:Int),(T.base:Int),T.queue⟩=0)(R:kl (T.s:Int) (T.base:Int) T.queue.length l j):
 C_ prog 151 #[(g,0),(a,k,m)] w λf w'=>f=Zv Zn/\H_ (PrD Z W w w' g n X (fA U {T with base:=T.base+j,queue:=T.queue.drop j}) (Mir.bA {T with base:=T.base+j,queue:=T.queue.drop j})):=by
 have B:=Y P;have A:=Y F;have HL:=Y hl;have O:=Y hF;clear hF;have HS:=Y hs;clear hs;have I:=Y hb;have G:=Y K;have ag:=Y N;have ab:=Y S;have HG:=Y R;clear hb K N S R;clear P F hl;go_enter func151,ntmps151;go_wp2_with fail;refine(dM HL E v).mono ?_;rintro f D J;obtain⟨e,c1,i,c2,rfl,t,ai⟩:∃e c1 i c2,f=Zr #[.agg #[Zb 3,.slice e [(c:Int),(h:Int)].length c1,.slice i 0 c2],Zn]/\aD D e [(c:Int),(h:Int)].length [(c:Int),(h:Int)]/\OS w D:=by
  rcases J with ⟨aC,ay,aA,au,e,c1,i,c2,he,hf,t,_,_,_,_,_,hE⟩|⟨_,ap,_⟩
  ·obtain⟨rfl,rfl,rfl,rfl⟩:=aI.one O hf;exact⟨e,c1,i,c2,he,t,hE⟩
  ·exact absurd O (ap _ _ _ _)
 have ak:=Y ai;have ar:=Y t;clear J t ai;have⟨M,z⟩:=ZX (D.alloc (.cells #[Zb 3,.slice e 2 c1,.slice i 0 c2] 308));have y:=beA z;have C2:=bxA z;have r:=Y (ak.t y);go_upto_region 2 with fail;rw[<-z];have⟨o,s,an,ah,C⟩:=ar.2.2 (by simp);subst an;have j0:M.cell? (o,s)=Zb (c:Int):=(y.cell (p:=(o,s)) ah).trans (by simpa using C 0 (by simp));have j1:M.cell? (o,s+1)=Zb (h:Int):=(y.cell (p:=(o,s+1)) ah).trans (by simpa using C 1 (by simp));clear C;have aj:=Y (A.later r);have M2:=Y (B.later r);have⟨az,oa,on,oc,sa,sn,sc,aw,qa,qn,qc,ha,hn,hc,ad⟩:=aj.o;have HX:=Y ad;clear ad;have⟨x0,x1,x2,x3,x4,x5,x6,x7,x8,x9,ax,al,am,aq⟩:=HX.bx.cells;have⟨f0,f1,f2⟩:=C2.three;have d:=Y r;have Q:=Y (HL.later r);clear x0 x1 x2 x3 x4 x5 x6 x7 am aq;obtain⟨x,af⟩:∃x:Bool,H_ (x=T.known):=⟨_,rfl⟩;rw[<-af] at al;cases x with
 |true=>
  go_upto_region 5 with fail;refine phd (A.later d) (B.later d) Q E v d ab HG (by assumption) ?_;intro v8 v9 Rt Ru Rv Rs Rx Ry Rz RA RB RC RE RF RG RH RJ RM x' H;go_wp2_with fail;refine(iR H.1 H.2.1 I G ag).mono ?_;rintro f w8 ⟨rfl,b⟩;go_wp2;exact UM (by simp[results,results151,go_sem]) rfl ⟨rfl,⟨b.mu,b.pr,H.2.2.trans b.ext⟩⟩
 |false=>
  have ao:c≠T.s:=by
   rcases HS with p|p
   ·exact p
   ·rw[<-af] at p
    cases p
  have av:((c:Int)==(T.s:Int))=false:=by simp;omega
  have aB:(c==T.s)=false:=by simp;omega
  clear ao;go_upto_region 5 with fail;refine phd (A.later d) (B.later d) Q E v d ab HG (by assumption) ?_;intro v8 v9 Rt Ru Rv Rs Rx Ry Rz RA RB RC RE RF RG RH RJ RM x' H;go_wp2_with fail;refine(iR H.1 H.2.1 I G ag).mono ?_;rintro f w8 ⟨rfl,b⟩;go_wp2;exact UM (by simp[results,results151,go_sem]) rfl ⟨rfl,⟨b.mu,b.pr,H.2.2.trans b.ext⟩⟩
theorem tT(B:Mut W w)(t:PrW Z W w g n X U T)(E:Bytes w a m l)(O:m<=2000)(v:m<=c)(I:aI l 0 [(j:Int),(k:Int)] 0 [])(K:aY U n=0)(y:T.known=true->T.goal<=T.ar)(z:(T.ar:Int)<=2147483647)(D:bO ⟨(T.s:Int),(T.base:Int),T.queue⟩=0)(C:kl (T.s:Int) (T.base:Int) T.queue.length l i):
 C_ prog 151 #[(g,0),(a,m,c)] w λe w'=>e=Zv Zn/\H_ (PrD Z W w w' g n X (fA U {T with base:=T.base+i,queue:=T.queue.drop i}) (Mir.bA {T with base:=T.base+i,queue:=T.queue.drop i})):=by
 have G:=Y B;have F:=Y t;have M:=Y E;have A:=Y I;clear I;have af:=Y K;have Q:=Y y;have aj:=Y z;have ai:=Y D;have HG:=Y C;clear K y z D C;clear B t E;go_enter func151,ntmps151;go_wp2_with fail;refine(dM M O v).mono ?_;rintro e s x;obtain⟨b,c1,d,c2,rfl,h,N⟩:∃b c1 d c2,e=Zr #[.agg #[Zi,.slice b [(j:Int),(k:Int)].length c1,.slice d 0 c2],Zn]/\aD s b [(j:Int),(k:Int)].length [(j:Int),(k:Int)]/\OS w s:=by
  rcases x with ⟨au,ap,ar,am,b,c1,d,c2,he,hf,h,_,_,_,_,_,hE⟩|⟨_,ak,_⟩
  ·obtain⟨rfl,rfl,rfl,rfl⟩:=aI.one A hf;exact⟨b,c1,d,c2,he,h,hE⟩
  ·exact absurd A (ak _ _ _ _)
 have ab:=Y N;have av:=Y h;clear x h N;have⟨W2,r⟩:=ZX (s.alloc (.cells #[Zi,.slice b 2 c1,.slice d 0 c2] 308));have D2:=beA r;have C2:=bxA r;have f:=Y (ab.t D2);go_upto_region 2 with fail;rw[<-r];have P:=Y (F.later f);have M2:=Y (G.later f);have⟨aq,oa,on,oc,sa,sn,sc,an,qa,qn,qc,ha,hn,hc,J⟩:=P.o;have S:=Y J;clear J;have⟨x0,x1,R,x3,x4,x5,x6,x7,x8,x9,ao,ad,ag,al⟩:=S.bx.cells;have⟨f0,f1,f2⟩:=C2.three;have o:=Y f;have ah:=Y (M.later f);clear x0 x1 R x3 x4 x5 x6 x7 ad ag al;go_upto_region 5 with fail;refine phd (F.later o) (G.later o) ah O v o ai HG (by assumption) ?_;intro v8 v9 Rt Ru Rv Rs Rx Ry Rz RA RB RC RE RF RG RH RJ RM x' H;go_wp2_with fail;refine(iR H.1 H.2.1 af Q aj).mono ?_;rintro e w8 ⟨rfl,p⟩;go_wp2;exact UM (by simp[results,results151,go_sem]) rfl ⟨rfl,⟨p.mu,p.pr,H.2.2.trans p.ext⟩⟩
end
section
open Go.RowKit
theorem JV(h1:l.length=8*n)(h2:∀x∈l,0<=x/\x<=255)(c:n<=32):∃w b,bm w b n l:=by
 refine⟨(default:W_).alloc (.cells (l.map (Value.int .u8)).toArray 0),some ⟨(default:W_).heap.size,0,none⟩,h1,by rw[aG];omega,h2,λ_=>⟨_,0,rfl,by simp,λi d=>?_⟩⟩;have a:=Bx.new (default:W_) (l.map (Value.int .u8)).toArray 0;rw[m9,a.cell i];rw[Oy,Ox (by omega)];simp[show i<l.length by omega]
theorem Mx.aI.facts(h:aI l x L n R):l.length<=2000/\0<l.length/\∀x∈l,0<=x/\x<=255:=by
 obtain⟨h1,h2,b,rfl⟩:=h;have⟨w,c,a⟩:=JV h2 b (eu h1).2.2.2.1;exact⟨Bm a h1,eL,fR a h1⟩
theorem Mx.fL(h:may x l 0=0):aI (bF x l 0 []) x l 0 []:=⟨h,rfl,by simp,rfl⟩
theorem Mx.AY{k:Int}{s:Nat}(h0:0<=k)(h1:k<=15)(hs:(s:Int)<=2147483647):may k [(s:Int)] 0=0:=by
 refine oe (by omega) (by simp) λj a=>?_
 simp at a;subst a;unfold bH;simp;omega
theorem Mx.uT(h0:0<=x)(h1:x<=15)(hs:(n:Int)<=2147483647)(b:(g:Int)<=2147483647):may x [(n:Int),(g:Int)] 0=0:=by
 refine oe (by omega) (by simp) λj a=>?_
 simp at a
 match j,a with
 |0,_=>unfold bH;simp;omega
 |1,_=>unfold bH;simp;omega
theorem iO(h:iF x U X M)(p:Pf_):iF x (fA U p) X M:=by
 unfold fA;split
 ·exact DP h
 ·exact h
theorem sL:({T with base:=T.base+0,queue:=T.queue.drop 0}:Pf_)=T:=rfl
theorem wO(h:aI l x L 0 [])(b:¬(x=0/\∃a,L=[y,a])):kl y r n l 0:=.inr ⟨λa c=>b (by
 have⟨h1,h2,_⟩:=aI.one h c;exact⟨h1,a,h2⟩),rfl⟩
theorem ES(t:Mut W w)(o:PrW Z W w g n X U T)(I:PaI n c X M U T V K J)(B:E∈J)(r:Bytes w a k l)(u:k<=2000)(p:k<=m)(b:gD false D l E):
 C_ prog 151 #[(g,0),(a,k,m)] w λh f=>h=Zv Zn/\H_ (∃A,PrD Z W w f g n X A (Mir.ev [] T V K E).1/\iF (n:Int) A X M):=by
 have C:=I.bC.2 E B;have v:=I.liv.may;have G:=I.hh;have hs:=I.hs;have hc:=I.hc;have x:T.known=true->T.goal<=T.ar:=λz=>by rw[I.bC.1.AM z];exact I.bC.1.to_
 cases E with
 |eE=>
  refine(Bw t o r u p b.2).mono ?_;rintro h f ⟨h1,h2⟩;exact⟨h1,⟨U,h2,I.liv⟩⟩
 |opn s=>exact absurd b.2.1 (by simp)
 |msg s q F=>exact absurd b.2.1 (by simp)
 |gone s=>
  by_cases h1:s=T.s
  ·have e:(Mir.ev [] T V K (.gone s)).1=Mir.opened [] T:=by simp only[Mir.ev];rw[UY h1]
   rw[e];refine(Bv t o r u p b.2.2 h1 (by omega) (by omega)).mono ?_;rintro h f ⟨h1,h2⟩;exact⟨h1,⟨U,h2,I.liv⟩⟩
  ·have e:(Mir.ev [] T V K (.gone s)).1=Mir.bA T:=by simp only[Mir.ev];rw[UX h1]
   rw[e];refine(Bz t o r u p b.2.2 h1 v x (by omega) I.sd (wO b.2.2 (by simp))).mono ?_;rintro h f ⟨h1,h2⟩;have d:=h2.o;rw[sL] at d;exact⟨h1,⟨_,d,iO I.liv T⟩⟩
 |hav s y=>
  by_cases h1:s=T.s/\T.known=false
  ·have e:(Mir.ev [] T V K (.hav s y)).1=Mir.bA {T with known:=true,goal:=y}:=by simp only[Mir.ev];rw[UY h1]
   rw[e];have d:=C.2 h1.1 h1.2;have H:=I.bC.1.back;refine(ET t o r u p b.2.2 h1.1 h1.2 v (by omega) (by omega)).mono ?_;rintro h f ⟨h1,h2⟩;exact⟨h1,⟨_,h2,iO I.liv _⟩⟩
  ·have e:(Mir.ev [] T V K (.hav s y)).1=Mir.bA T:=by simp only[Mir.ev];rw[UX h1]
   rw[e];have h2:s≠T.s\/T.known=true:=by
    by_cases d:s=T.s
    ·right
     cases z:T.known with
     |true=>rfl
     |false=>exact absurd ⟨d,z⟩ h1
    ·exact .inl d
   refine(By t o r u p b.2.2 h2 v x (by omega) I.sd (wO b.2.2 (by simp))).mono ?_;rintro h f ⟨h1,h2⟩;have d:=h2.o;rw[sL] at d;exact⟨h1,⟨_,d,iO I.liv T⟩⟩
 |ack s q=>
  by_cases h1:s=T.s
  ·have e:(Mir.ev [] T V K (.ack s q)).1=Mir.bA {T with base:=T.base+Mir.fH T.base q T.queue.length,queue:=T.queue.drop (Mir.fH T.base q T.queue.length)}:=by simp only[Mir.ev];rw[UY h1]
   rw[e];refine(tT t o r u p b.2.2 v x (by omega) I.sd (i:=Mir.fH T.base q T.queue.length) (.inl ⟨(q:Int),by rw[<-h1];exact b.2.2,(J0 _ _ _).symm⟩)).mono ?_;rintro h f ⟨h1,h2⟩;exact⟨h1,⟨_,h2,iO I.liv _⟩⟩
  ·have e:(Mir.ev [] T V K (.ack s q)).1=Mir.bA T:=by simp only[Mir.ev];rw[UX h1]
   rw[e];refine(tT t o r u p b.2.2 v x (by omega) I.sd (wO b.2.2 (by simp;omega))).mono ?_;rintro h f ⟨h1,h2⟩;have d:=h2.o;rw[sL] at d;exact⟨h1,⟨_,d,iO I.liv T⟩⟩
def l9(S:Nat->Prop)(w:W_)(v:V_):Option Lt_->Prop
 |none=>v=Zs
 |some l=>∃a c bs,v=.slice (some a) (List.length bs) c/\Byo S w (some a) bs.length bs/\bs.length<=c/\gD false false bs l
theorem l9.of{b:Lt_}(h:dN Z w v (some l))(hm:gD false false l b):l9 Z w v (some b):=by
 have⟨a,c,h1,h2,h3⟩:=h;exact⟨a,c,l,h1,h2,h3,hm⟩
theorem OtW.fg{B S:Nat->Prop}{w:W_}{O n:Nat}{a:List (List B8)}{o:Of_}(h:OtW B S w O n a o):o.bd=decide (o.want=2147483647):=by
 have⟨g,b,c,d,f,e,hc,X⟩:=h;exact X.r.fg
theorem Kh{u:Upd}:((u.msgs.take j).map Fr.al).flatten.length<=u.qs.length+2:=by
 have h1:=u.tL;have h2:u.msgs=u.msgs.take j++u.msgs.drop j:=(qr j _).symm;rw[h2,le,List.flatten_append] at h1;have a:=congrArg List.length h1;rw[OC,u.jh] at a;omega
theorem EC(I:PaI n c X M U T V K J)(A:V.bd=false)(f:K.ms[K.j]?=C)(F:Mut W w)(G:OtW Z W w g n X V){c1 c2:Nat}(z:aD w a k C.al)(hk:bm w q C.nb C.bs)(ag:C.nb<=c2):
 C_ prog 229 #[(g,0),.agg #[C.kind,(a,k,c1),(q,C.nb,c2)]] w λo t=>o=Zv Zn/\H_ (OtD Z W w t g n X (if K.j+1=K.ms.length then {V with back:=K.to_,got:=[],had:=K.fy} else {V with got:=V.got++[C]})):=by
 have h:K.j<K.ms.length:=(OI.1 f).1;have H:K.ms≠[]:=by intro o;rw[o] at h;simp at h
 have hG:=I.bC.1.AA H;have ar:=I.bC.1.to_;have an:=I.bC.1.later H;have B:=I.bC.1.before h;have v:=I.bC.1.got A;rw[UX (by omega)] at v;have p:=I.bC.1.had A;rw[UX (by omega)] at p;have hh:=I.hh;have hs:=I.hs;have hc:=I.hc;have al:=I.bC.1.ses;have⟨u,ao,ap,e,r,g3,g4,g5,O,g7,g8,S,ab,ah,N,aj,ak⟩:=hG;have D:=Upd.zy (u:=u) (f:=C) (by rw[<-e];exact OR f);have aq:=A0 D.1;have h9:=lE D.1;have am:(fo V).length<=u.qs.length+2:=by unfold fo;rw[v,e];exact Kh
 have au:k=C.al.length:=z.1.symm;by_cases y:K.j+1=K.ms.length
 ·rw[UY y];have⟨s,L,E⟩:=Upd.tJ (u:=u) (i:=K.j) (f:=C) (by rw[<-e];exact f) (by rw[<-e];exact y);rw[s];have ad:fo V++C.al=u.from_::(K.to_:Int)::(u.qs.map λd=>(dO d).toNat).map (λx:Nat=>(x:Int)):=by
   have h1:=u.tL;have h2:u.msgs=u.msgs.take K.j++[C]:=by
    have b:=qr K.j u.msgs;rw[<-e] at b ⊢;rw[Fn h,Pi (by omega)] at b;rw[Ox h] at f;rw[OG f] at b;exact b.symm
   unfold fo;rw[v,e];have P:((u.msgs.take K.j).map Fr.al).flatten++C.al=u.al:=by
    rw[<-h1];conv=>rhs;rw[h2]
    rw[le,List.flatten_append];simp
   rw[P];unfold Upd.al;rw[g4,List.map_map];congr 2;refine Ux λd j=>?_
   have:=(oP (r d j)).1;show _=((dO d).toNat:Int);omega
  have ai:iw ((u.qs.map λd=>(dO d).toNat).map (λx:Nat=>(x:Int))) (bV u.qs)=u.qs:=by
   rw[List.map_map,<-zd u.qs r];congr 1;refine Ux λd j=>?_
   have:=(oP (r d j)).1;show((dO d).toNat:Int)=_;omega
  have hbl:=wk u.qs;refine(Bj F G (c1:=c1) z (by omega) (by omega) (by omega) (bm.bl (by rw[<-E];exact hk) L.symm) ag (by omega) ad ai (λx hx=>?_) (by omega) I.n1 I.n2 ?_ N (by rw[p];exact O) g7 (by rw[p];exact g8) S (by rw[p];exact ab) (by omega) (by omega) (by omega)).mono ?_
  ·obtain⟨d,j,rfl⟩:=m8.1 hx;have:=oP (r d j);omega
  ·rcases g5 with af|⟨h1,h2,b⟩
   ·exact .inl af
   ·exact .inr ⟨by rw[B];exact h1,h2,by rw[B];exact b⟩
  ·rintro o t ⟨h1,h2⟩;refine⟨h1,?_⟩;have b:=h2.o;rw[p,<-ah] at b;exact Y b
 ·rw[UX y];have⟨s,L,E⟩:=Upd.tM (u:=u) (i:=K.j) (f:=C) (by rw[<-e];exact f) (by rw[<-e];omega);rw[s];refine(Bk F G (c1:=c1) (q:=q) (m:=C.nb) (c2:=c2) z (by omega) (by omega) (by omega) C.bs).mono ?_;rintro o t ⟨h1,h2⟩;refine⟨h1,?_⟩;have b:=h2.o;have R:(⟨0,C.al,C.nb,C.bs⟩:Fr)=C:=by rw[<-s]
  rw[R] at b;exact Y b
theorem Es(H:Mut W w)(y:OtW Z W w g n X V)(I:PaI n c X M U T V K J)(S:E∈J)(G:Bytes w a k l)(t:k<=2000)(r:k<=m)(u:gD true D l E):
 C_ prog 152 #[(g,0),(a,k,m)] w λi f=>∃v,i=Zr #[v,Zn]/\H_ (OtD Z W w f g n X (Mir.ev [] T V K E).2.1)/\H_ (l9 W f v (Mir.ev [] T V K E).2.2.2):=by
 have P:=I.bC.2 E S;have hh:=I.hh;have hs:=I.hs;have hc:=I.hc;have ah:=I.bC.1.ses;have aj:=I.bC.1.back;have z:(V.want:Int)<=2147483647:=by
  cases hf:V.bd with
  |true=>
   have h1:=y.fg;rw[hf] at h1;have h2:=UT h1.symm;omega
  |false=>
   have h1:=I.bC.1.want hf;have h2:=I.hb;have b:=I.bC.1.jl;omega
 cases E with
 |eE=>
  refine(Be H y G t r u.2).mono ?_;rintro i f ⟨v,h1,h2,b⟩;exact⟨v,h1,h2,b⟩
 |hav s ai=>exact absurd u.2.1 (by simp)
 |gone s=>exact absurd u.2.1 (by simp)
 |ack s N=>exact absurd u.2.1 (by simp)
 |opn s=>
  have al:s<=T.s:=P;refine(Bf H y G t r u.2.2 (by omega) (by omega)).mono ?_;rintro i f ⟨v,h1,h2,b⟩;refine⟨v,h1,?_,?_⟩
  ·have B:(Mir.ev [] T V K (.opn s)).2.1=ft V s:=by
    simp only[Mir.ev];unfold ft;by_cases h:s<V.sb
    ·rw[UY h,UX (by omega)]
    ·rw[UX h];by_cases e:V.sb<s
     ·rw[UY e,UY e];rfl
     ·rw[UX e,UX e];split<;>rfl
   rw[B];exact h2
  ·have d:=b.o;unfold fM at d;simp only[Mir.ev];by_cases h:s<V.sb
   ·rw[UY h] at d ⊢;exact Y d
   ·rw[if_neg h] at d ⊢;by_cases e:V.sb<s
    ·rw[if_pos e] at d ⊢;exact Y (l9.of d ⟨rfl,rfl,fL (uT (by omega) (by omega) (by omega) (by omega))⟩)
    ·rw[if_neg e] at d ⊢;have p:s=V.sb:=by omega
     by_cases j:V.bd=true
     ·rw[if_pos j] at d ⊢;rw[p] at d;exact Y (l9.of d ⟨rfl,rfl,fL (AY (by omega) (by omega) (by omega))⟩)
     ·rw[if_neg j] at d ⊢;rw[p] at d;exact Y (l9.of d ⟨rfl,rfl,fL (uT (by omega) (by omega) (by omega) (by omega))⟩)
 |msg s N ad=>
  have x:=u.2.2;have A:∀(o1:Of_) (F:Option (List Int)),(∀o:W_,Mut W o->OtW Z W o g n X V->Bytes o a k l->C_ prog 197 #[(g,0),(a,k,m)] o λi f=>∃v,i=Zr #[v,Zn]/\H_ (OtD Z W o f g n X o1)/\H_ (dN W f v F))->C_ prog 152 #[(g,0),(a,k,m)] w λi f=>∃v,i=Zr #[v,Zn]/\H_ (OtD Z W w f g n X o1)/\H_ (dN W f v F):=
   λo1 F hr=>Et H y G t r x.1 hr
  unfold Mir.ev;by_cases h1:s≠V.sb
  ·simp only[UY h1];refine(A V none λo h e j=>EB h e j t r (by omega) z (λam kd nm ak af hx=>?_)).mono ?_
   ·have h2:=(aI.one x.1 hx.1).2.1;simp only[List.cons.injEq] at h2;exact h1 (by omega)
   ·rintro i f ⟨v,h1,h2,b⟩;exact⟨v,h1,h2,b⟩
  ·simp only[UX h1];have B:s=V.sb:=Decidable.not_not.mp h1;subst B;by_cases h2:V.bd=true
   ·simp only[UY h2];refine(A V _ λo h e j=>yv h e j t r (by omega) z h2 x).mono ?_;rintro i f ⟨v,h1,h2,b⟩;exact⟨v,h1,h2,(l9.of b ⟨rfl,rfl,fL (AY (by omega) (by omega) (by omega))⟩)⟩
   ·simp only[UX h2];have p:V.bd=false:=by simpa using h2
    by_cases b:N≠V.want
    ·simp only[UY b];refine(A V _ λo h e j=>Iw h e j t r (by omega) z p x (by omega)).mono ?_;rintro i f ⟨v,h1,h2,b⟩;exact⟨v,h1,h2,(l9.of b ⟨rfl,rfl,fL (uT (by omega) (by omega) (by omega) (by omega))⟩)⟩
    ·simp only[UX b];have e3:N=V.want:=Decidable.not_not.mp b;subst e3;have⟨ab,hj⟩:=Mir.wanted I.bC.1 p P;have hw:=I.bC.1.want p;have ag:=I.hb;refine(A _ _ λo h e j=>EA h e j t r (by omega) z x (by omega) (o1:=if K.j+1=K.ms.length then {V with back:=K.to_,got:=[],had:=K.fy} else {V with got:=V.got++[ad]}) ?_ (λW1 a1 n1 c1 a2 c2 q1 q2 q3 q4 q5 q6=>EC I p ab q1 q2 (c1:=c1) q3 q4 q6)).mono ?_
     ·split
      ·exact⟨rfl,rfl,p⟩
      ·exact⟨rfl,rfl,p⟩
     ·rintro i f ⟨v,h1,h2,b⟩;have e4:((V.want:Int)+1)=((V.want+1:Nat):Int):=by omega
      have O:=b.o;rw[e4] at O;have Q:=l9.of (b:=.ack V.sb (V.want+1)) O ⟨rfl,rfl,fL (uT (by omega) (by omega) (by omega) (by omega))⟩;by_cases d:K.j+1=K.ms.length
      ·simp only[UY d] at h2 ⊢;exact⟨v,h1,h2,Y Q⟩
      ·simp only[UX d] at h2 ⊢;exact⟨v,h1,h2,Y Q⟩
end
section
open Go.RowKit Go.Shelf
variable {n₀ Bs Bn:Nat}
attribute [local go_sem] Oper.semAt_some
structure Ck (m:Nat) where
 s:Nat
 q:Nat
 ok:s+q<=m/\q<=4
def Gy(m k:Nat):Ck m:=⟨min (k*4) m,min 4 (m-min (k*4) m),by omega,by omega⟩
def ei(m k:Nat):List (Ck m):=(List.range k).map (Gy m)
theorem qI:ei m (k+1)=ei m k++[Gy m k]:=by simp[ei,Ui]
theorem td:(ei m k).length=k:=by simp[ei]
def sy(b off:Nat){m:Nat}(x:Ck m):Array V_:=#[(b,off+x.s,x.q,x.q)]
def KpC(n₀ Bs Bn:Nat)(W W':W_):Prop:=Below n₀ W W'/\W'.heap[Bs]?=W.heap[Bs]?/\W'.heap[Bn]?=W.heap[Bn]?
theorem JI(h:KpC n₀ Bs Bn w u)(k:KpC n₀ Bs Bn u z):KpC n₀ Bs Bn w z:=⟨h.1.trans k.1,k.2.1.trans h.2.1,k.2.2.trans h.2.2⟩
theorem JH(b:n₀<=w)(d:Bs<w)(e:Bn<w)(W:W_)(l:Nat)(o a:Obj)(c:w<=l)(h:W.heap[l]?=o)(h1:o.isCells=false)(h2:o.isWalk=false):KpC n₀ Bs Bn W (W.putObj l a):=
 ⟨(ry b d W l o a c h h1 h2).1,(ry b d W l o a c h h1 h2).2,(ry b e W l o a c h h1 h2).2⟩
theorem Gx(hn:1<=n)(hm:m<=1000)(ai:m<=h)(J S:List (Ck m)->W_->Prop)(_:j<=w)(W:AbidesFrom w J)(Q:∀t x w,J t w->t.length<(m+3)/4->YieldAt Fence.wide (n-1) prog g (sy b i x) w λu v=>
   (u=Zv (Zl true)/\J (t++[x]) v/\KpC j k c w v)\/(u=Zv (Zl false)/\S (t++[x]) v))(hBs:w.cell? k=(b,i,m,h))(L:w.cell? c=Zb 4)(h0:J [] w):
 CallsIn Fence.wide n prog 164 #[.func (.yield g) #[] #[],(k,0),(c,0)] w λu v=>(∃ad,u=Zv ad)/\
  ((∃U,U=ei m ((m+3)/4)/\J U v)\/(∃t,(∃d,d<=(m+3)/4/\t=ei m d)/\S t v)):=by
 refine callsIn_of_wp func164 rfl trivial ?_ rfl;simp only[ntmps164,EQ,fd,ut,Nat.reduceAdd,Nat.reduceSub,ww,AC,LE,fI,pp,i6];gi_wp2;gi_loopw [4] (λA wr=>∃(d I:Nat),H_ (I=d*4)/\H_ (d<=(m+3)/4)/\I<=m+3/\A=Zb (I:Int)/\J (ei m d) wr/\Below j w wr/\wr.heap[k]?=w.heap[k]?/\wr.heap[c]?=w.heap[c]?)
  (λA _=>m+4-(intOf A).toNat)
 case atStart=>exact⟨0,0,rfl,ol _,by omega,rfl,h0,ce _ _,rfl,rfl⟩
 case round=>
  obtain⟨d,I,o,af,ap,rfl,H,V,O,G⟩:=hrel;have X:=Y O;have R:=Y G;have aq:wr.cell? k=(b,i,m,h):=(ii (w:=w) (a:=⟨k,0,none⟩) O).trans hBs;have ao:wr.cell? c=Zb 4:=(ii (w:=w) (a:=⟨c,0,none⟩) G).trans L;clear O G;by_cases al:(I:Int)<m
  ·have ak:(I:Int)<=h:=by omega
   have an:(I:Int)<=m:=by omega
   obtain⟨x,F⟩:∃x:Ck m,H_ (x=Gy m d):=⟨_,rfl⟩;by_cases h4:(4:Int)<=(m:Int)-I
   ·have E:x.s=I/\x.q=4:=by
     have h1:=o.o;rw[F];constructor
     ·show min (d*4) m=I;omega
     ·show min 4 (m-min (d*4) m)=4;omega
    obtain⟨e,y⟩:∃e:W_,e=wr.drew:=⟨_,rfl⟩;have P:wr.grownBy e none:=by
     rw[y];exact⟨rfl,rfl,rfl,OJ _,λA hi _=>rfl⟩
    have⟨fn,ah,assign,body,s,z⟩:=Q (ei m d) x e (W _ wr e none H P (λZ M=>by cases M)) (by rw[td];have:=o.o;omega);unfold sy at s;rw[E.1,E.2] at s;rw[y] at s z;have ab:(I:Int)+4<=h:=by omega
    have ag:I+4-I=4:=by omega
    gi_wp2;gi_region;gi_wp2_with fail;refine z.mono ?_;have B:=Y (show ei m (d+1)=ei m d++[x] by rw[qI,F]);have r:=Y (show d+1<=(m+3)/4 by have:=o.o;omega);rintro u p (⟨rfl,D,l⟩|⟨rfl,q⟩)
    ·rw[<-B] at D;have N:H_ (Below j w p):=V.drew.trans l.1;have K:H_ (p.heap[k]?=w.heap[k]?):=l.2.1.trans X;have C:H_ (p.heap[c]?=w.heap[c]?):=l.2.2.trans R;have ae:p.cell? c=Zb 4:=(ii (w:=w) (a:=⟨c,0,none⟩) C).trans L;clear l;gi_wp2_with fail;go_roundw
     case rel=>exact⟨d+1,I+4,by have:=o.o;unfold H_;omega,r,by omega,by go_num,D,N,K,C⟩
     case measure=>simp[intOf];omega
    ·rw[<-B] at q;gi_wp2;refine UM (results_none rfl _ _ _) rfl ?_;refine⟨⟨_,rfl⟩,.inr ?_⟩;first
      |exact⟨_,⟨d+1,r,rfl⟩,q⟩
      |exact⟨d+1,r,q⟩
   ·obtain⟨f,hd⟩:∃f:Nat,m-I=f:=⟨_,rfl⟩;have am:(I:Int)+f=m:=by omega
    have E:x.s=I/\x.q=f:=by
     have h1:=o.o;rw[F];constructor
     ·show min (d*4) m=I;omega
     ·show min 4 (m-min (d*4) m)=f;omega
    obtain⟨e,y⟩:∃e:W_,e=wr.drew:=⟨_,rfl⟩;have P:wr.grownBy e none:=by
     rw[y];exact⟨rfl,rfl,rfl,OJ _,λA hi _=>rfl⟩
    have⟨fn,ah,assign,body,s,z⟩:=Q (ei m d) x e (W _ wr e none H P (λZ M=>by cases M)) (by rw[td];have:=o.o;omega);unfold sy at s;rw[E.1,E.2] at s;rw[y] at s z;have ab:(I:Int)+f<=h:=by omega
    have ar:(f:Int)<4:=by omega
    have aj:(0:Int)<f:=by omega
    have ag:I+f-I=f:=by omega
    gi_wp2;gi_region;gi_wp2_with fail;refine z.mono ?_;have B:=Y (show ei m (d+1)=ei m d++[x] by rw[qI,F]);have r:=Y (show d+1<=(m+3)/4 by have:=o.o;omega);rintro u p (⟨rfl,D,l⟩|⟨rfl,q⟩)
    ·rw[<-B] at D;have N:H_ (Below j w p):=V.drew.trans l.1;have K:H_ (p.heap[k]?=w.heap[k]?):=l.2.1.trans X;have C:H_ (p.heap[c]?=w.heap[c]?):=l.2.2.trans R;have ae:p.cell? c=Zb 4:=(ii (w:=w) (a:=⟨c,0,none⟩) C).trans L;clear l;gi_wp2_with fail;go_roundw
     case rel=>exact⟨d+1,I+4,by have:=o.o;unfold H_;omega,r,by omega,by go_num,D,N,K,C⟩
     case measure=>simp[intOf];omega
    ·rw[<-B] at q;gi_wp2;refine UM (results_none rfl _ _ _) rfl ?_;refine⟨⟨_,rfl⟩,.inr ?_⟩;first
      |exact⟨_,⟨d+1,r,rfl⟩,q⟩
      |exact⟨d+1,r,q⟩
  ·have HE:=Y (show d=(m+3)/4 by have:=o.o;have:=af.o;omega);gi_wp2;go_end0;have T:J (ei m ((m+3)/4)) wr:=by rw[<-HE];exact H
   refine⟨⟨_,rfl⟩,.inl ?_⟩;first
    |exact T
    |exact⟨_,rfl,T⟩
theorem Ai:
 CallsIn Fence.wide n prog 130 #[(a,g,k),Zb 4] w λe b=>e=Zv (.func (.func 164) #[] #[(w,0),(w.heap.size+1,0)])/\b=(w.alloc (.cells #[(a,g,k)] 84)).alloc (.cells #[Zb 4] 3):=by
 refine callsIn_of_wp func130 rfl trivial ?_ rfl;simp only[ntmps130,EQ,fd,ut,Nat.reduceAdd,Nat.reduceSub,ww,AC,LE,fI,pp,i6];gi_wp2;go_ret;exact⟨rfl,rfl⟩
theorem xU(f:1<=n)(y:m<=1000)(q:m<=i)(s:c<=w)(u:g<w)(l:k<w)(hBs:w.cell? g=(b,j,m,i))(o:w.cell? k=Zb 4):
 SeqStopsK Fence.wide n prog 164 #[(g,0),(k,0)] (sy b j (m:=m)) (KpC c g k) (λx=>x=ei m ((m+3)/4)) (λt=>∃d,d<=(m+3)/4/\t=ei m d) ((m+3)/4) w:=λz J r W a v _ e h0 =>
 Gx (n:=n) f (g:=z) (k:=g) (c:=k) (j:=c) (b:=b) (i:=j) (h:=i) (m:=m) y q J r (w:=W) (OP s a.size) v e ((a.cell (p:=g) u).trans hBs) ((a.cell (p:=k) l).trans o) h0
end
section
open Go.RowKit Go.Shelf
attribute [local go_sem] Oper.semAt_some
structure Cn (m:Nat) where
 s:Nat
 q:Nat
 ok:s+q<=m/\q<=9
def iv(m k:Nat):Cn m:=⟨min (k*9) m,min 9 (m-min (k*9) m),by omega,by omega⟩
def cQ(m k:Nat):List (Cn m):=(List.range k).map (iv m)
theorem qL:cQ m (k+1)=cQ m k++[iv m k]:=by simp[cQ,Ui]
theorem kP:(cQ m k).length=k:=by simp[cQ]
def sA(b off:Nat){m:Nat}(x:Cn m):Array V_:=#[(b,off+x.s,x.q,x.q)]
theorem Eh(hn:1<=n)(hm:m<=1000)(ai:m<=h)(J S:List (Cn m)->W_->Prop)(_:j<=w)(W:AbidesFrom w J)(Q:∀t x w,J t w->t.length<(m+8)/9->YieldAt Fence.wide (n-1) prog g (sA b i x) w λu v=>
   (u=Zv (Zl true)/\J (t++[x]) v/\KpC j k c w v)\/(u=Zv (Zl false)/\S (t++[x]) v))(hBs:w.cell? k=(b,i,m,h))(L:w.cell? c=Zb 9)(h0:J [] w):
 CallsIn Fence.wide n prog 251 #[.func (.yield g) #[] #[],(k,0),(c,0)] w λu v=>(∃ad,u=Zv ad)/\
  ((∃U,U=cQ m ((m+8)/9)/\J U v)\/(∃t,(∃d,d<=(m+8)/9/\t=cQ m d)/\S t v)):=by
 refine callsIn_of_wp func251 rfl trivial ?_ rfl;simp only[ntmps251,EQ,fd,ut,Nat.reduceAdd,Nat.reduceSub,ww,AC,LE,fI,pp,i6];gi_wp2;gi_loopw [4] (λA wr=>∃(d I:Nat),H_ (I=d*9)/\H_ (d<=(m+8)/9)/\I<=m+8/\A=Zb (I:Int)/\J (cQ m d) wr/\Below j w wr/\wr.heap[k]?=w.heap[k]?/\wr.heap[c]?=w.heap[c]?)
  (λA _=>m+9-(intOf A).toNat)
 case atStart=>exact⟨0,0,rfl,ol _,by omega,rfl,h0,ce _ _,rfl,rfl⟩
 case round=>
  obtain⟨d,I,o,af,ap,rfl,H,V,O,G⟩:=hrel;have X:=Y O;have R:=Y G;have aq:wr.cell? k=(b,i,m,h):=(ii (w:=w) (a:=⟨k,0,none⟩) O).trans hBs;have ao:wr.cell? c=Zb 9:=(ii (w:=w) (a:=⟨c,0,none⟩) G).trans L;clear O G;by_cases al:(I:Int)<m
  ·have ak:(I:Int)<=h:=by omega
   have an:(I:Int)<=m:=by omega
   obtain⟨x,F⟩:∃x:Cn m,H_ (x=iv m d):=⟨_,rfl⟩;by_cases h4:(9:Int)<=(m:Int)-I
   ·have E:x.s=I/\x.q=9:=by
     have h1:=o.o;rw[F];constructor
     ·show min (d*9) m=I;omega
     ·show min 9 (m-min (d*9) m)=9;omega
    obtain⟨e,y⟩:∃e:W_,e=wr.drew:=⟨_,rfl⟩;have P:wr.grownBy e none:=by
     rw[y];exact⟨rfl,rfl,rfl,OJ _,λA hi _=>rfl⟩
    have⟨fn,ah,assign,body,s,z⟩:=Q (cQ m d) x e (W _ wr e none H P (λZ M=>by cases M)) (by rw[kP];have:=o.o;omega);unfold sA at s;rw[E.1,E.2] at s;rw[y] at s z;have ab:(I:Int)+9<=h:=by omega
    have ag:I+9-I=9:=by omega
    gi_wp2;gi_region;gi_wp2_with fail;refine z.mono ?_;have B:=Y (show cQ m (d+1)=cQ m d++[x] by rw[qL,F]);have r:=Y (show d+1<=(m+8)/9 by have:=o.o;omega);rintro u p (⟨rfl,D,l⟩|⟨rfl,q⟩)
    ·rw[<-B] at D;have N:H_ (Below j w p):=V.drew.trans l.1;have K:H_ (p.heap[k]?=w.heap[k]?):=l.2.1.trans X;have C:H_ (p.heap[c]?=w.heap[c]?):=l.2.2.trans R;have ae:p.cell? c=Zb 9:=(ii (w:=w) (a:=⟨c,0,none⟩) C).trans L;clear l;gi_wp2_with fail;go_roundw
     case rel=>exact⟨d+1,I+9,by have:=o.o;unfold H_;omega,r,by omega,by go_num,D,N,K,C⟩
     case measure=>simp[intOf];omega
    ·rw[<-B] at q;gi_wp2;refine UM (results_none rfl _ _ _) rfl ?_;refine⟨⟨_,rfl⟩,.inr ?_⟩;first
      |exact⟨_,⟨d+1,r,rfl⟩,q⟩
      |exact⟨d+1,r,q⟩
   ·obtain⟨f,hd⟩:∃f:Nat,m-I=f:=⟨_,rfl⟩;have am:(I:Int)+f=m:=by omega
    have E:x.s=I/\x.q=f:=by
     have h1:=o.o;rw[F];constructor
     ·show min (d*9) m=I;omega
     ·show min 9 (m-min (d*9) m)=f;omega
    obtain⟨e,y⟩:∃e:W_,e=wr.drew:=⟨_,rfl⟩;have P:wr.grownBy e none:=by
     rw[y];exact⟨rfl,rfl,rfl,OJ _,λA hi _=>rfl⟩
    have⟨fn,ah,assign,body,s,z⟩:=Q (cQ m d) x e (W _ wr e none H P (λZ M=>by cases M)) (by rw[kP];have:=o.o;omega);unfold sA at s;rw[E.1,E.2] at s;rw[y] at s z;have ab:(I:Int)+f<=h:=by omega
    have ar:(f:Int)<9:=by omega
    have aj:(0:Int)<f:=by omega
    have ag:I+f-I=f:=by omega
    gi_wp2;gi_region;gi_wp2_with fail;refine z.mono ?_;have B:=Y (show cQ m (d+1)=cQ m d++[x] by rw[qL,F]);have r:=Y (show d+1<=(m+8)/9 by have:=o.o;omega);rintro u p (⟨rfl,D,l⟩|⟨rfl,q⟩)
    ·rw[<-B] at D;have N:H_ (Below j w p):=V.drew.trans l.1;have K:H_ (p.heap[k]?=w.heap[k]?):=l.2.1.trans X;have C:H_ (p.heap[c]?=w.heap[c]?):=l.2.2.trans R;have ae:p.cell? c=Zb 9:=(ii (w:=w) (a:=⟨c,0,none⟩) C).trans L;clear l;gi_wp2_with fail;go_roundw
     case rel=>exact⟨d+1,I+9,by have:=o.o;unfold H_;omega,r,by omega,by go_num,D,N,K,C⟩
     case measure=>simp[intOf];omega
    ·rw[<-B] at q;gi_wp2;refine UM (results_none rfl _ _ _) rfl ?_;refine⟨⟨_,rfl⟩,.inr ?_⟩;first
      |exact⟨_,⟨d+1,r,rfl⟩,q⟩
      |exact⟨d+1,r,q⟩
  ·have HE:=Y (show d=(m+8)/9 by have:=o.o;have:=af.o;omega);gi_wp2;go_end0;have T:J (cQ m ((m+8)/9)) wr:=by rw[<-HE];exact H
   refine⟨⟨_,rfl⟩,.inl ?_⟩;first
    |exact T
    |exact⟨_,rfl,T⟩
theorem yp:
 CallsIn Fence.wide n prog 238 #[(a,g,k),Zb 9] w λe b=>e=Zv (.func (.func 251) #[] #[(w,0),(w.heap.size+1,0)])/\b=(w.alloc (.cells #[(a,g,k)] 224)).alloc (.cells #[Zb 9] 3):=by
 refine callsIn_of_wp func238 rfl trivial ?_ rfl;simp only[ntmps238,EQ,fd,ut,Nat.reduceAdd,Nat.reduceSub,ww,AC,LE,fI,pp,i6];gi_wp2;go_ret;exact⟨rfl,rfl⟩
theorem wI(f:1<=n)(y:m<=1000)(q:m<=i)(s:c<=w)(u:g<w)(l:k<w)(hBs:w.cell? g=(b,j,m,i))(o:w.cell? k=Zb 9):
 SeqStopsK Fence.wide n prog 251 #[(g,0),(k,0)] (sA b j (m:=m)) (KpC c g k) (λx=>x=cQ m ((m+8)/9)) (λt=>∃d,d<=(m+8)/9/\t=cQ m d) ((m+8)/9) w:=λz J r W a v _ e h0 =>
 Eh (n:=n) f (g:=z) (k:=g) (c:=k) (j:=c) (b:=b) (i:=j) (h:=i) (m:=m) y q J r (w:=W) (OP s a.size) v e ((a.cell (p:=g) u).trans hBs) ((a.cell (p:=k) l).trans o) h0
end
section
open Go.RowKit
namespace Mx
theorem AT(h:Q[k]?=I)(a:I.kind=3):bV (Q.take (k+1))=bV (Q.take k)++[I.d]:=by
 unfold bV;rw[up,h,UE,le];simp[a]
theorem AU(h:Q[k]?=I)(a:¬I.kind=3):bV (Q.take (k+1))=bV (Q.take k):=by
 unfold bV;rw[up,h,UE,le];simp[a]
theorem Hc{f t:Int}(h:Q[k]?=I):f::t::(Q.take (k+1)).map dO=(f::t::(Q.take k).map dO)++[dO I]:=by
 rw[up,h,le];simp
theorem tG(a:List Pk)(k:Nat):(bV (a.take k)).length<=k:=by
 unfold bV;rw[pm];exact OP (UK _ _) (by rw[OM];omega)
end Mx
theorem mm3(HQ:H_ (QL w a n Q))(HW:H_ (∀ah∈Q,QW ah))(az:n<=1000)(XW:H_ (Bx u w #[x,y,(a,n,g)] 334))(IW:H_ (bB u w (q,2,m) [x,y]))(FW:H_ (OS w u)){Pc Pd Pe Pf Pg Ph Pj Pl Pm Pn Po Pp Pq Ps Pu Pv Pw Px Py Pz PE PG PH PI PJ PK PM PO PQ PR PS PT PU PX PY PZ P9 Qa Qb Qc Qd Qe Qf Qg Qh Qi Qj Qk Ql Qm Qn Qo:V_}(hQ:∀(V:W_) (q:Option A_) (c m:Nat) (h:Option A_) (b i:Nat) {v0 v5 v6 v7 v8 v9 Rn Ro Rr Rq RW RY Sa Sb Sc Se Sf Sh Rt Ru Rv Rs Rx Ry Rz RA RB RC RE RF RG RH RJ RM Si Sj Sk Sl Sm Sn So Sp Sq Sr Ss St Su Sv Sw Sx Sy Sz SA SB SC SD SE SF SG SH SJ:V_},H_ (bB V w.heap.size (.slice q c m) (x::y::Q.map dO))→H_ (ay V w.heap.size (.slice h b i) (bV Q))→c=n+2→b≤n→H_ (OS w V)→jk (Tryz.f215.body.getD .skip) S 4 ⟨#[v0,.pointer (some ⟨w.heap.size,0,none⟩),.slice none 0 0,.slice q c m,.slice h b i,v5,v6,v7,v8,v9,Rn,Ro,Rr,Rq,RW,RY,Sa,Sb,Sc,Se,Sf,Sh,Rt,Ru,Rv,Rs,Rx,Ry,Rz,RA,RB,RC,RE,RF,RG,RH,RJ,RM,Si,Sj,Sk,Sl,Sm,Sn,So,Sp,Sq,Sr,Ss,St,Su,Sv,Sw,Sx,Sy,Sz,SA,SB,SC,SD,SE,SF,SG,SH,SJ],[]⟩ V):
 jk (Tryz.f215.body.getD .skip) S 3 ⟨#[.agg #[.int .i64 x,.int .i64 y,.slice a n g],.pointer (some ⟨w.heap.size,0,none⟩),.slice none 0 0,.slice q 2 m,.slice none 0 0,v,P,H,p,o,f,e,d,Pc,Pd,Pe,Pf,Pg,Ph,Pj,Pl,Pm,Pn,Po,Pp,Pq,Ps,Pu,Pv,Pw,Px,Py,Pz,PE,PG,PH,PI,PJ,PK,PM,PO,PQ,PR,PS,PT,PU,PX,PY,PZ,P9,Qa,Qb,Qc,Qd,Qe,Qf,Qg,Qh,Qi,Qj,Qk,Ql,Qm,Qn,Qo],[]⟩ u:=by
 refine fh rfl ?_;intro ax hK;have⟨x0,x1,x2⟩:=XW.three;have HN:=Y HQ.1;go_upto_region 4 with fail;go_loopw [3,4,18] (λs3 s4 R wr=>∃(k:Nat) (q:Option A_) (c m:Nat) (h:Option A_) (b i:Nat),k<=n/\R=Zb (k:Int)/\s3=(q,c,m)/\s4=(h,b,i)/\H_ (c=k+2)/\H_ (b=(bV (Q.take k)).length)/\H_ (bB wr w (q,c,m) (x::y::(Q.take k).map dO))/\H_ (ay wr w (h,b,i) (bV (Q.take k)))/\H_ (OS w wr)) (λ_ _ R _=>n-(intOf R).toNat)
 case atStart=>exact⟨0,q,2,m,none,0,0,ol _,rfl,rfl,rfl,Y rfl,Y rfl,IW,(t8 _ _ _ _),FW⟩
 case round=>
  obtain⟨k,q,c,m,h,b,i,L,rfl,rfl,rfl,A,D,K,J,hF⟩:=hrel;by_cases an:k<n
  ·have aA:(k:Int)<(n:Int):=by omega
   have⟨aw,ap,ah,ao,ar,hx,c0,c1,c2,c3,c4,c5,c6,c7,O,c9,ai⟩:=(HQ.later hF).at_ k an;subst ao;have HX:=Y hx;have ak:=HW _ (OR hx);have⟨af,F,qf,qd⟩:=ah;have⟨q1,q2,q3,q4,q5,q6,_⟩:=ak;dsimp only at c0 c1 c2 c3 c4 c5 c6 c7 O c9 ai q1 q2 q3 q4 q5 q6;clear hx;have⟨Z,s⟩:=ZX (wr.alloc (.cells (Zp af F qf qd) 109));have W:=bxA s;have D4:=beA s;have B:H_ (bB Z w (q,c,m) (x::y::(Q.take k).map dO)):=(by rw[s];exact World.ownsRow.alloc K _);have B4:H_ (ay Z w (h,b,i) (bV (Q.take k))):=(by rw[s];exact World.ownsRow.alloc J _);have F4:=Y (hF.t D4);have⟨r,G⟩:=ZX (x::y::(Q.take k).map dO);have⟨I,j⟩:=ZX (bV (Q.take k));rw[<-G] at B;rw[<-j] at B4 D;have ag:=Y (show c=r.length by rw[G,A];simp;have:=HN.o;omega);have av:r.length<=1002:=by have l:=ag.o;have h8:=A.o;omega
   have aq:I.length<=1000:=by have l:=tG Q k;rw[<-j] at l;omega
   clear K J;go_upto_region 6 with fail;rw[<-s];clear c0 c1 c2 c3 c4 c5 c6 c7 O c9 ai;have⟨T,p1,p2,X,p4,p5,p6,p7,p8,p9,ae⟩:=sx W;clear X p4 p5 p6 p7 p8 p9 ae;go_wp2_with (at_builtin;refine jL rfl rfl w r ?o1 ((af*4+F)*32+qf) ?o2 ?o3 ?o4 ?_);case o1=>exact B
   case o3=>omega
   case o4=>exact F4.size
   intro U cc w7 z t;have I7:=Y z;have G7:H_ (Z.grownBy w7 (Value.slice q c m).ownBlock):=t;clear z t;have X7:=Y (W.grow G7 (λal=>aU B W (by decide) al.symm));have M:H_ (ay w7 w (h,b,i) I):=mR B4 B (by decide) G7;have N:=Y (F4.grown G7 F4.size (λk L=>(World.ownsRow.lt B k L).1));have⟨ab,hL⟩:=ZX (r.length+1);rw[<-hL] at I7 ⊢;have HE:=Y (Hc (f:=x) (t:=y) HX);clear T p1 p2;have⟨T,p1,p2,X,p4,p5,p6,p7,p8,p9,ae⟩:=sx X7;clear T p2;by_cases E:F=3
   ·have C:=Y (AT HX E);subst E;go_wp2_with (at_builtin;refine jK rfl rfl w I ?zb1 qd ?zb2 ?zb3 ?zb4 ?_);case zb1=>exact M
    case zb3=>omega
    case zb4=>exact N.size
    intro g8 O w8 _ _ z t;have B8:=Y z;have G8:H_ (w7.grownBy w8 (Value.slice h b i).ownBlock):=t;clear z t;have I8:H_ (bB w8 w (U,ab,cc) (r++[(af*4+3)*32+qf])):=mR I7 M (by decide) G8;have F8:=Y (N.grown G8 N.size (λk L=>(World.ownsRow.lt M k L).1));have⟨aj,hM⟩:=ZX (I.length+1);rw[<-hM] at B8 ⊢;clear p1 X p4 p5 p6 p7 p8 p9 ae;go_wp2;go_roundw
    case rel=>exact⟨k+1,some U,ab,cc,some ⟨g8,0,none⟩,aj,O,by omega,by go_num,rfl,rfl,Y (by rw[hL,<-ag,A]),Y (by rw[hM,C,<-j];simp),Y (by rw[HE,<-G];exact I8),Y (by rw[C,<-j];exact B8),F8⟩
    case measure=>simp[intOf];omega
   ·have C:=Y (AU HX E);have au:(F==3)=false:=by simpa using E
    go_wp2;go_roundw
    case rel=>exact⟨k+1,some U,ab,cc,h,b,i,by omega,by go_num,rfl,rfl,Y (by rw[hL,<-ag,A]),Y (by rw[C,<-j];exact D),Y (by rw[HE,<-G];exact I7),Y (by rw[C,<-j];exact M),N⟩
    case measure=>simp[intOf];omega
  ·have am:k=n:=by omega
   subst am;have HT:H_ (Q.take k=Q):=OL (by have:=HN.o;omega);rw[HT] at K J D;go_wp2;exact Met.intro (hQ wr q c m h b i K J A (by rw[D];have l:=tG Q k;rw[HT] at l;exact l) hF)
end
section
open Go.RowKit Go.Shelf
attribute [local go_sem] Oper.semAt_some
theorem fu{f:Fence}{E:Prop}(D:A.guard=none)(s x:Operand)(e:A.op=.call {callee:=.builtin .append,args:=#[s,x],argTypes:=#[84,84]})(c:Nat)(l:List Nat)(k:cq w c (O.eval s) l)(z g:Nat)(r:O.eval x=(g,1,1))(hc:w.cell? g=some (.int .u64 (z:Int)))(I:l.length<=1000000)(h:c<=w)(o:∀d b,cq b c d (l++[z])->w.grownBy b (O.eval s).ownBlock->F (O.put A.dst d) b):
 if Region.wanted A (yielded B O.tmps)=true then Oper.wpIn f n prog A O w F S else E:=by
 have C:Region.wanted A (yielded B O.tmps)=true:=by simp[Region.wanted,D]
 rw[UY C];have⟨p,u,q,i,y⟩:=info_parts Tryz.info83;have⟨d,b,t,h2,v,_⟩:=run_append_own_at (P:=prog) w c 84 A.type 83 p _ 1 8 Tryz.underlying84 u q i y rfl (by decide) (O.eval s) l.length (l.map λx:Nat=>Value.int .u64 (x:Int)) k ⟨g,0,none⟩ 1 1 [.int .u64 (z:Int)] rfl (λj G a=>by
  match j,a with
  |0,a=>
   simp at a;subst a;rw[GT];exact hc
  |j+1,a=>simp at a) (by simp[Value.oneCell']) (by unfold maxLen;omega) (by omega) h
 unfold Oper.wpIn;refine⟨by simp[Oper.about,e,resolve,Target.leads,Sem.run_pure],?_⟩;rw[Oper.semAt_plain f _ _ (by rw[e];intro H m;cases m)];simp[execOp,e,resolve,invoke,builtin,r,t,Result.andThen];refine o d b ?_ v;unfold cq;rw[OC,le];exact h2
def mg(w:W_)(C:Nat)(l:List Nat){m:Nat}(pre:List (Ck m))(W:W_):Prop:=
 ∃v,Bx W w #[v] 84/\cq W C v (pre.map λx=>dp ((l.drop x.s).take x.q))/\OS w W/\C<=W
def OAx(b off:Nat){m:Nat}(T:Array V_)(x:Ck m)(a':Act)(_:W_):Prop:=
 a'={tmps:=(T.setIfInBounds 7 (b,off+x.s,x.q,x.q)).setIfInBounds 4 (b,off+x.s,x.q,x.q),defers:=[]}
theorem It(p:w+1<=n):OwnFrom n (mg w n N (m:=m)):=by
 rintro j W i g ⟨v,d,h,f,l⟩ a c;have b:∀r,g=some r->∃o:Obj,W.heap[r]?=o/\o.isCells=false:=λr e=>(c r e).2
 exact⟨v,bX d a b,gG h a b,f.grown a (by omega) (λk e=>by have:=(c k e).1;omega),by have:=a.size;omega⟩
theorem j9{d:W_}{i:List (Ck m)}{x:Ck m}(R:w+1<=n)(hBs:w<g/\g<n)(A:w<k/\k<n)(y:Bx u w #[v] 84)(q:cq u n v (i.map λx=>dp ((N.drop x.s).take x.q)))(F:OS w u)(L:n<=u)(b:OS u z)(I:c=dp ((N.drop x.s).take x.q))(s:cq d n P ((i.map λx=>dp ((N.drop x.s).take x.q))++[c]))(f:z.grownBy d v.ownBlock):
 KeepsFrom n u (d.setCell w P)/\KpC w g k u (d.setCell w P)/\mg w n N (i++[x]) (d.setCell w P):=by
 have t:∀a,v.ownBlock=some a->n<=a/\a<u.heap.size:=λa h=>World.ownsRow.lt q a h
 have C:KeepsOthers u z:=KeepsOthers.of_grownBy (row:=none) ⟨b.os,b.tape,b.output,b.size,λa h _=>b.block a h⟩ (λ_ _ D=>by cases D);have H:cq z n v (i.map λx=>dp ((N.drop x.s).take x.q)):=aW q b;have B:KeepsOthers z d:=KeepsOthers.of_grownBy f (by
  intro O J e r;rcases H.2 with ⟨l,_⟩|⟨M,Q,S,l,_,E,_⟩
  ·rw[l] at e;cases e
  ·rw[l] at e
   cases e
   rw[E] at r;cases r
   rfl)
 have K:=b.size;have j:∀a,a<n->d.heap[a]?=u.heap[a]?:=λa h=>(f.block a (by omega) (λe=>by have:=(t a e.symm).1;omega)).trans (b.block a (by omega))
 have o:Below n u d:=⟨f.os.trans b.os,f.tape.trans b.tape,f.output.trans b.output,OP b.size f.size,λa h=>j a h⟩;have G:Bx d w #[v] 84:=(j _ (by omega)).trans y;refine⟨((C.trans B).trans (KeepsOthers.setCell _ _ _)).from _,⟨(o.mono (show w<=n by omega)).setCell (p:=w) (OJ _) _,?_,?_⟩,P,G.set 0 P,?_,(F.trans (o.mono (show w<=n by omega))).setCell (p:=w) (OJ _) _,?_⟩
 ·rw[jp _ _ _ _ (show g≠w by omega)];exact j g hBs.2
 ·rw[jp _ _ _ _ (show k≠w by omega)];exact j k A.2
 ·rw[le,i7,rx,<-I];refine aB s (λe=>?_);have:=(World.ownsRow.lt s _ e).1;simp at this;omega
 ·simp[World.setCell];have:=f.size;have:=b.size;omega
end
section
open Go.RowKit Go.Shelf
attribute [local go_sem] Oper.semAt_some
theorem nG{F:Fence}{rest:List Oper}(H:A.guard=none){x:Operand}(e:A.op=.call {callee:=.builtin .append,args:=#[t,x],argTypes:=#[235,235]}){d:List V_}(i:w.ownsRow k 308 3 (O.eval t) n d){c0 c1 c2:V_}(j:∀u∈[c0,c1,c2],u.oneCell'=true)(z:O.eval x=(w,1,1))(K:n<=1000000)(I:k<=w)(m:∀c a,a.ownsRow k 308 3 c (n+1) (d++[c0,c1,c2])->w.grownBy a (O.eval t).ownBlock->wpListIn F g prog B S rest (O.put A.dst c) a):
 wpListIn F g prog B S (A::rest) O (w.alloc (.cells #[c0,c1,c2] 308)):=by
 have G:Region.wanted A (yielded B O.tmps)=true:=by simp[Region.wanted,H]
 unfold wpListIn;rw[UY G];have⟨p,D,q,h,E⟩:=info_parts Tryz.infoFr;have o:=Bx.new w #[c0,c1,c2] 308;have⟨c,a,C,h2,b,_⟩:=run_append_own_at (P:=prog) (w.alloc (.cells #[c0,c1,c2] 308)) k 235 A.type 308 p _ 3 56 Tryz.underlying235 D q h E rfl (by decide) (O.eval t) n d (World.ownsRow.alloc i _) ⟨w,0,none⟩ 1 1 [c0,c1,c2] rfl (λs u y=>by
  rw[GT,m9,o.cell s];simpa using y) j (by unfold maxLen;omega) (by omega) (by simp;omega)
 unfold Oper.wpIn;refine⟨by simp[Oper.about,e,resolve,Target.leads,Sem.run_pure],?_⟩;rw[Oper.semAt_plain F _ _ (by rw[e];intro J l;cases l)];simp[execOp,e,resolve,invoke,builtin,z,C,Result.andThen];exact m c a h2 ⟨b.os,b.tape,b.output,by have:=b.size;simp at this;omega,λf r v=>(b.block f (by simp;omega) v).trans (pi w _ f r)⟩
def gO(b off:Nat){m:Nat}(x:Cn m):List V_:=[Zb 0,(b,off+x.s,x.q,x.q),Zs]
def me(w:W_)(C b off:Nat){m:Nat}(pre:List (Cn m))(W:W_):Prop:=
 ∃v,Bx W w #[v] 235/\W.ownsRow C 308 3 v pre.length (pre.flatMap (gO b off))/\OS w W/\C<=W
def NAx(b off:Nat){m:Nat}(T:Array V_)(x:Cn m)(a':Act)(_:W_):Prop:=
 a'={tmps:=(T.setIfInBounds 46 (b,off+x.s,x.q,x.q)).setIfInBounds 8 (b,off+x.s,x.q,x.q),defers:=[]}
theorem Iq(s:w+1<=n):OwnFrom n (me w n b g (m:=m)):=by
 rintro p W l i ⟨v,f,j,h,q⟩ a d;have c:∀r,i=some r->∃o:Obj,W.heap[r]?=o/\o.isCells=false:=λr e=>(d r e).2
 exact⟨v,bX f a c,gG j a c,h.grown a (by omega) (λk e=>by have:=(d k e).1;omega),by have:=a.size;omega⟩
theorem A5{f:List (Cn m)}{x:Cn m}(J:w+1<=n)(hBs:w<k/\k<n)(y:w<c/\c<n)(t:Bx u w #[v] 235)(o:u.ownsRow n 308 3 v f.length (f.flatMap (gO b g)))(C:OS w u)(F:n<=u)(r:z.ownsRow n 308 3 P (f.length+1) (f.flatMap (gO b g)++gO b g x))(d:u.grownBy z v.ownBlock):
 KeepsFrom n u (z.setCell w P)/\KpC w k c u (z.setCell w P)/\me w n b g (f++[x]) (z.setCell w P):=by
 have s:∀a,v.ownBlock=some a->n<=a/\a<u.heap.size:=λa h=>World.ownsRow.lt o a h
 have A:KeepsOthers u z:=KeepsOthers.of_grownBy d (by
  intro H E e q;rcases o.2 with ⟨j,_⟩|⟨G,I,K,j,_,B,_⟩
  ·rw[j] at e;cases e
  ·rw[j] at e
   cases e
   rw[B] at q;cases q
   rfl)
 have i:∀a,a<n->z.heap[a]?=u.heap[a]?:=λa h=>d.block a (by omega) (λe=>by have:=(s a e.symm).1;omega)
 have l:Below n u z:=⟨d.os,d.tape,d.output,d.size,λa h=>i a h⟩;have D:Bx z w #[v] 235:=(i _ (by omega)).trans t;refine⟨(A.trans (KeepsOthers.setCell _ _ _)).from _,⟨(l.mono (show w<=n by omega)).setCell (p:=w) (OJ _) _,?_,?_⟩,P,D.set 0 P,?_,(C.trans (l.mono (show w<=n by omega))).setCell (p:=w) (OJ _) _,?_⟩
 ·rw[jp _ _ _ _ (show k≠w by omega)];exact i k hBs.2
 ·rw[jp _ _ _ _ (show c≠w by omega)];exact i c y.2
 ·rw[OC,wt,Id,List.flatMap_nil,m7];refine aB r (λe=>?_);have:=(World.ownsRow.lt r _ e).1;simp at this;omega
 ·simp[World.setCell];have:=d.size;omega
theorem Fu{assign body:Code}(y:O.eval t=.func (.func 251) #[] #[(n,0),(g,0)])(M:m<=1000)(A:m<=c)(r:n<u)(q:g<u)(L:w.heap.size+1<=u)(hBs:u.cell? n=(b,k,m,c))(z:u.cell? g=Zb 9)(h0:me w u b k ([]:List (Cn m)) u)(C:∀(e:Nat) (a:List (Cn m)) (x:Cn m) (W:W_) (K:Act->W_->Prop),me w u b k a W->(∀d f,KeepsFrom u W f->KpC w n g W f->me w u b k a f->NAx b k O.tmps x d f->K d f)->
   assign.wpIn (Fence.wide.inRound e) (6-1-1) prog (Exit.then K (λ_ _ _=>False)) {tmps:=O.tmps.setIfInBounds 46 (b,k+x.s,x.q,x.q),defers:=[]} W)(G:∀(e:Nat) (a:List (Cn m)) (x:Cn m) (d:Act) (W:W_),me w u b k a W->NAx b k O.tmps x d W->a.length<(m+8)/9->
   body.wpIn (Fence.wide.inRound e) (6-1-1) prog (ownPostG u (KpC w n g) (me w u b k) (λ_ _ _=>False) (a++[x]) W) d W)(B:∀(D:Nat) (W:W_),u.heap.size≤D→me w u.heap.size b k (cQ m ((m+8)/9)) W→W.heap[D]?=some (.deferred (some []))→S .normal {O with defers:={target:=.collected D,args:=#[]}::O.defers} W):
 (Code.rangeFunc t #[46] assign body).wpIn Fence.wide 6 Tryz.prog S O u:=by
 refine wpIn_rangeFunc_ownH rfl (by omega) (gf:=251) (lb:=#[.pointer (some ⟨n,0,none⟩),.pointer (some ⟨g,0,none⟩)]) y trivial (enters_of Tryz.func251 (by kernel_rfl) rfl)
  (wI (n:=5) (by omega) (c:=w.heap.size) M A (by omega) r q hBs z) JI (JH (by omega) r q) (ce _ _) (λ_=>rfl)
  (me w u.heap.size b k) (λ_ _ _=>False) (Iq (b:=b) (g:=k) (m:=m) L) (λ_ _ _ _ _ hs _ _=>hs) h0 (NAx b k O.tmps) (λ_ _ _ _ _ _ h _ _=>h) ?_ ?_ ?_ ?_
 ·intro e a x W K l o;have h:=C e a x W K l o;have F:(#[46].zip (sA b k x)).foldl (λ(I:Array V_) (x:Nat×V_)=>match x with|(p,v)=>I.setIfInBounds p v) O.tmps=O.tmps.setIfInBounds 46 (.slice (some ⟨b,k+x.s,none⟩) x.q x.q):=by simp[sA]
  rw[F];exact h
 ·intro e a x d W _ _ l J s;exact G e a x d W l J s
 ·rintro D N W E rfl l o;exact B D W E l o
 ·intro D H a W _ _ h _;exact h.elim
end
section
open Go.RowKit
theorem aD.NV(h:aD w (some ⟨b,g,none⟩) n l)(s q:Nat)(hs:s+q<=n):aD w (some ⟨b,g+s,none⟩) q ((l.drop s).take q):=by
 have⟨h1,h2,f⟩:=h;refine⟨by rw[OM,ge];omega,by omega,λm=>?_⟩;have⟨k,j,a,d,hc⟩:=f (by omega);simp only[Option.some.injEq,Addr.mk.injEq,US] at a;obtain⟨rfl,rfl⟩:=a;refine⟨b,g+s,rfl,d,λi e=>?_⟩;have c:=hc (s+i) (by omega);rw[<-Nat.add_assoc] at c;rw[c];simp only[Oy];rw[ul e,Tt]
namespace Mx
theorem tN(h:i<(l.length+8)/9):(cG l)[i]?=some ((l.drop (i*9)).take 9):=by
 unfold cG;rw[i8,T8 h];rfl
theorem Upd.Kv{u:Upd}(h:u.msgs[i]?=C):C.al=(u.al.drop (i*9)).take 9:=by
 have e:=(OI.1 h).1;have j:=u.mO;have d:=u.jh;have a:=j7 u.al;unfold Upd.msgs at h;have f:((cG u.al).dropLast.map (λc=>(⟨0,c,0,[]⟩:Fr))).length=(u.al.length+8)/9-1:=by rw[pm,List.length_dropLast,a]
 by_cases g:i<(u.al.length+8)/9-1
 ·rw[OO (by omega),i8,List.getElem?_dropLast,UY (by omega),tN (by omega)] at h;simp at h;subst h;rfl
 ·have b:i=(u.al.length+8)/9-1:=by omega
  rw[ON (by omega),show i-((cG u.al).dropLast.map (λc=>(⟨0,c,0,[]⟩:Fr))).length=0 by omega] at h;simp at h;subst h;simp only;rw[List.getLast?_eq_getElem?,a,tN (by omega),b];rfl
end Mx
theorem CR(a:l.length=n)(b:k*9<n):(l.drop (iv n k).s).take (iv n k).q=(l.drop (k*9)).take 9:=by
 show(l.drop (min (k*9) n)).take (min 9 (n-min (k*9) n))=(l.drop (k*9)).take 9;rw[show min (k*9) n=k*9 by omega];rcases(show 9<=n-k*9\/n-k*9<9 by omega) with h|h
 ·rw[show min 9 (n-k*9)=9 by omega]
 ·rw[OL (by rw[ge];omega),OL (by rw[ge];omega)]
theorem Hl{b:Nat}{W:W_}{u:Upd}{nn bn bc g B N:Nat}{ba:Option A_}(m:aD W (some ⟨b,0,none⟩) nn u.al)(z:bm W ba bn (flat (bV u.qs)))(c:bn=(bV u.qs).length)(C:bn<=bc)(v:B<=b)(s:g≠b)(y:0<bn->∀p,ba=some p->some g≠some p.block/\B<=p.block)(I:N=(nn+8)/9):
 Fps B W ((((cQ nn N).flatMap (gO b 0)).set ((N-1)*3) (Zb 1)).set ((N-1)*3+2) (ba,bn,bc)) u.msgs (some g):=by
 intro i t d;have F:=(OI.1 d).1;have H:=u.mO;have K:=u.jh;have x:=m.1;have D:i<N:=by omega
 have J:u.msgs.length=N:=by omega
 have l:(cQ nn N)[i]?=some (iv nn i):=by unfold cQ;rw[i8,T8 D];rfl
 have e:=λA (E:A<3)=>dJ (gO b 0) (λ_=>rfl) (cQ nn N) i _ l E
 have n:((cQ nn N).flatMap (gO b 0)).length=N*3:=by rw[gd _ 3 (λ_=>rfl),kP]
 have w:t.al=(u.al.drop (iv nn i).s).take (iv nn i).q:=by rw[CR x (by omega),Upd.Kv d]
 have r:aD W (some ⟨b,0+(iv nn i).s,none⟩) (iv nn i).q t.al:=by rw[w];exact m.NV _ _ (iv nn i).ok.1
 have q:((((cQ nn N).flatMap (gO b 0)).set ((N-1)*3) (Zb 1)).set ((N-1)*3+2) (ba,bn,bc))[i*3+1]?=some (.slice (some ⟨b,0+(iv nn i).s,none⟩) (iv nn i).q (iv nn i).q):=by
  rw[TC (by omega),TC (by omega),e 1 (by omega)];rfl
 by_cases G:i+1=N
 ·have⟨h,a,k⟩:=Upd.tJ d (by omega);have o:N-1=i:=by omega
  refine⟨_,_,_,ba,bc,?_,q,?_,r,?_,OJ _,?_,λ_ p f=>?_,?_⟩
  ·rw[TC (by omega),o,UF (by rw[n];omega),h]
  ·rw[o,UF (by rw[t9,n];omega),a,c]
  ·rw[a,k,<-c];exact z
  ·rw[a,<-c];exact C
  ·cases f;exact⟨λe=>s (OG e),v⟩
  ·rw[a,<-c];exact y
 ·have⟨h,a,k⟩:=Upd.tM d (by omega);refine⟨_,_,_,none,0,?_,q,?_,r,?_,OJ _,?_,λ_ p f=>?_,?_⟩
  ·rw[TC (by omega),TC (by omega),show i*3=i*3+0 from rfl,e 0 (by omega),h];rfl
  ·rw[TC (by omega),TC (by omega),e 2 (by omega),a];rfl
  ·rw[a,k];exact⟨rfl,by rw[aG];omega,λL l=>by simp at l,λj=>absurd j (by omega)⟩
  ·rw[a];exact OJ _
  ·cases f;exact⟨λe=>s (OG e),v⟩
  ·rw[a];intro j;exact absurd j (by omega)
