import Derived.Test.YtgklbhiamepfoaaGreatDoorZ29
set_option maxHeartbeats 16000000
set_option maxRecDepth 100000
namespace Go.Proofs.YtgklbhiamepfoaaGreatDoor
open Go renaming World->W_,Value->V_,Calls->C_,Addr->A_
open Go.RowKit renaming Hid->H_
open Go.Proofs.Tryz Mx
variable {k j i h U1 Ve:Nat}{u U9:W_}{X U T S Q O N L J I H G F E D C B A t s r p o f e b aN br bL cE cM dC ed em et g9 eW fl gT iK jh jJ kN kO lW mk mO gr og oI pL ql qB rl rt sd so sB tH tJ tK tL tM ve vJ vN vZ wp xE zi zy zA Ab Ar Er Gj Gq JE JF JL JU Kv KC LH LJ LQ Ma Mb Mn Mo ME MK Nc Np Ns NK NM NT NV Oa Ov PP Us UZ:V_}{M:List B8}{W:List (List B8)}{x y z:Int}{d:B8}{q:Option A_}{U7:List Nat}{U8:Ending->W_->Prop}{Va:TypeId}{Vb:Operand}{Vc:Exit->Act->W_->Prop}{Vd:Act}
section
open Go.RowKit
variable {w:W_}{a:Option A_}{m:Nat}
def De.cs(x:De):List V_:=[Zb x.kind,Zb x.at_,Zb x.from_,Za x.d.z0,Za x.d.z1,Za x.d.z2,Za x.d.z3,Za x.d.z4,Za x.d.z5,Za x.d.z6,Za x.d.z7]
def DL(w:W_)(a:Option A_)(m:Nat)(ds:List De):Prop:=
 ds.length=m/\(∀x∈ds,x.ok)/\(0<m->∃b off,a=some ⟨b,off,none⟩/\b<w.heap.size/\∀i x,ds[i]?=some x->∀j u,x.cs[j]?=some u->w.cell? ⟨b,off+i*11+j,none⟩=some u)
theorem DL.later{w':W_}{h:List De}(o:DL w a m h){B:Nat}(d:Below B w w')(q:Av (λb=>b<B) a m):DL w' a m h:=by
 have⟨h1,h2,s⟩:=o;refine⟨h1,h2,λh0=>?_⟩;have⟨b,f,e,k,hc⟩:=s h0;refine⟨b,f,e,OE k d.size,λi x r j u t=>?_⟩;exact(d.cell (p:=(b,f+i*11+j)) (show b<B from q h0 _ e)).trans (hc i x r j u t)
theorem DL.av{i:List De}(h:DL w a m i):Av (λb=>b<w) a m:=λh0 p d=>by
 have⟨b,j,f,e,_⟩:=h.2.2 h0;rw[f] at d;cases d
 exact e
theorem DL.at_{w:W_}{a:Option A_}{m:Nat}{f:List De}(i:DL w a m f)(k:Nat)(p:k<m):∃b d x,a=some ⟨b,d,none⟩/\f[k]?=some x/\x.ok/\b<w.heap.size/\
 w.cell? ⟨b,d+k*11,none⟩=Zb x.kind/\w.cell? ⟨b,d+k*11+1,none⟩=Zb x.at_/\w.cell? ⟨b,d+k*11+2,none⟩=Zb x.from_/\w.cell? ⟨b,d+k*11+3,none⟩=Za x.d.z0/\w.cell? ⟨b,d+k*11+4,none⟩=Za x.d.z1/\w.cell? ⟨b,d+k*11+5,none⟩=Za x.d.z2/\w.cell? ⟨b,d+k*11+6,none⟩=Za x.d.z3/\w.cell? ⟨b,d+k*11+7,none⟩=Za x.d.z4/\w.cell? ⟨b,d+k*11+8,none⟩=Za x.d.z5/\w.cell? ⟨b,d+k*11+9,none⟩=Za x.d.z6/\w.cell? ⟨b,d+k*11+10,none⟩=Za x.d.z7:=by
 have⟨b,d,o,j,hc⟩:=i.2.2 (by omega);have h:f[k]?=some (f[k]'(by rw[i.1];exact p)):=Ox _;have e:=hc k _ h;exact⟨b,d,_,o,h,i.2.1 _ (OR h),j,e 0 _ rfl,e 1 _ rfl,e 2 _ rfl,e 3 _ rfl,e 4 _ rfl,e 5 _ rfl,e 6 _ rfl,e 7 _ rfl,e 8 _ rfl,e 9 _ rfl,e 10 _ rfl⟩
namespace Mx
def dL(n:Nat)(st:List (List B8)×List B8)(x:De):List (List B8)×List B8:=(doS st.1 st.2 x,doN n st.1 st.2 x)
def aC (n:Nat) (ds:List De):List (List B8) × List B8:=ds.foldl (dL n) ([List.replicate n zB],List.replicate n zB)
theorem iX(n:Nat)(b:List De)(x:De):aC n (b++[x])=dL n (aC n b) x:=by unfold aC;rw[dT];rfl
end Mx
def JM(w w':W_)(n:Nat)(ds:List De)(rv:V_)(k:Nat):Prop:=
 ∃(hv q:Nat) (bl:List B8),rv=.agg #[Zb 0,Za 0,Za 0,Za 0,Za 0,Za 0,Za 0,Za 0,Za 0,Zb (hv:Int),Zb (hv:Int),Zb (hv:Int),(q,0,n,n)]/\k<=3/\(aC n ds).1.length=hv+1/\(aC n ds).1[hv]?=some bl/\ay w' w (q,0,n,n) bl/\(∀l∈(aC n ds).1,l.length=n/\∀x∈l,by8 x)/\((aC n ds).2.length=n/\∀x∈(aC n ds).2,by8 x)/\OS w w'
theorem Cg(s:eI x k≠0):
 C_ prog 70 #[x,(q,k,j)] u λB w'=>B=Zr #[.agg Zo,Zi,Zf (eI x k)]/\H_ (OS u w'):=by
 have I:=Y s;have⟨M,h⟩:=ZX (eI x k);have⟨d,e⟩:=ZX (u.alloc (.cells Zo 95));have J:=beA e;have b:=bxA e;rw[<-h];clear s;go_enter func70,ntmps70;go_upto_region 1 with fail;rw[<-e];go_wp2_with fail;refine(pw q j d I).mono ?_;rintro B L ⟨rfl,r⟩;rw[r,<-h];clear r;have N:=b.frozen;have i:=b.cell 0;have D:=b.cell 1;have H:=b.cell 2;have f:=b.cell 3;have p:=b.cell 4;have G:=b.cell 5;have C:=b.cell 6;have t:=b.cell 7;have z:=b.cell 8;have y:=b.cell 9;have E:=b.cell 10;have o:=b.cell 11;have A:=b.cell 12;simp only[OB,OA,Oz] at i D H f p G C t z y E o A;have F:=Y (show iW d u 0 0 0 Zs=d by
  unfold iW;rw[bS b rfl,bS b rfl,bS b rfl,bS b rfl,bS b rfl,bS b rfl,bS b rfl,bS b rfl,bS b rfl,bS b rfl,bS b rfl,bS b rfl,bS b rfl])
 unfold iW at F;go_wp2;rw[F];exact UM (by simp[results,results70,go_sem,i,D,H,f,p,G,C,t,z,y,E,o,A]) rfl ⟨rfl,J⟩
end
section
open Go.RowKit Go.Shelf
attribute [local go_sem] Oper.semAt_some
theorem yE{assign body:Code}(z:Vd.eval Vb=.func (.func 164) #[] #[(k,0),(j,0)])(M:Ve<=1000)(B:Ve<=U1)(t:k<u)(s:j<u)(L:U9.heap.size+1<=u)(hBs:u.cell? k=(i,h,Ve,U1))(A:u.cell? j=Zb 4)(h0:mg U9 u U7 ([]:List (Ck Ve)) u)(E:∀(e:Nat) (b:List (Ck Ve)) (x:Ck Ve) (W:W_) (K:Act->W_->Prop),mg U9 u U7 b W->(∀d f,KeepsFrom u W f->KpC U9 k j W f->mg U9 u U7 b f->OAx i h Vd.tmps x d f->K d f)->
   assign.wpIn (Fence.wide.inRound e) (6-1-1) prog (Exit.then K (λ_ _ _=>False)) {tmps:=Vd.tmps.setIfInBounds 7 (i,h+x.s,x.q,x.q),defers:=[]} W)(H:∀(e:Nat) (b:List (Ck Ve)) (x:Ck Ve) (d:Act) (W:W_),mg U9 u U7 b W->OAx i h Vd.tmps x d W->b.length<(Ve+3)/4->
   body.wpIn (Fence.wide.inRound e) (6-1-1) prog (ownPostG u (KpC U9 k j) (mg U9 u U7) (λ_ _ _=>False) (b++[x]) W) d W)(C:∀(D:Nat) (W:W_),u<=D->mg U9 u U7 (ei Ve ((Ve+3)/4)) W->W.heap[D]?=some (.deferred (some []))->Vc .normal {Vd with defers:={target:=.collected D,args:=#[]}::Vd.defers} W):
 (Code.rangeFunc Vb #[7] assign body).wpIn Fence.wide 6 prog Vc Vd u:=by
 refine wpIn_rangeFunc_ownH rfl (by omega) (gf:=164) (lb:=#[.pointer (some ⟨k,0,none⟩),.pointer (some ⟨j,0,none⟩)]) z trivial (enters_of Tryz.func164 (by kernel_rfl) rfl)
  (xU (n:=5) (by omega) (c:=U9.heap.size) M B (by omega) t s hBs A) JI (JH (by omega) t s) (ce _ _) (λ_=>rfl)
  (mg U9 u U7) (λ_ _ _=>False) (It (N:=U7) (m:=Ve) L) (λ_ _ _ _ _ hs _ _=>hs) h0 (OAx i h Vd.tmps) (λ_ _ _ _ _ _ o _ _=>o) ?_ ?_ ?_ ?_
 ·intro e b x W K q r;have o:=E e b x W K q r;have G:(#[7].zip (sy i h x)).foldl (λ(I:Array V_) (x:Nat×V_)=>match x with|(p,v)=>I.setIfInBounds p v) Vd.tmps=Vd.tmps.setIfInBounds 7 (i,h+x.s,x.q,x.q):=by simp[sy]
  rw[G];exact o
 ·intro e b x d W _ _ q J y;exact H e b x d W q J y
 ·rintro D O W F rfl q r;exact C D W F q r
 ·intro D c b W _ _ o _;exact o.elim
theorem Gz(d:U7.length=k):((ei k ((k+3)/4)).map λx=>dp ((U7.drop x.s).take x.q))=cw U7:=by
 unfold ei cw;rw[List.map_map,d];apply Ux;intro b e;have f:b<(k+3)/4:=IR.1 e;show dp ((U7.drop (min (b*4) k)).take (min 4 (k-min (b*4) k)))=dp ((U7.drop (b*4)).take 4);rw[show min (b*4) k=b*4 by omega];congr 1;rcases(show 4<=k-b*4\/k-b*4<4 by omega) with h|h
 ·rw[show min 4 (k-b*4)=4 by omega]
 ·rw[OL (by rw[ge];omega),OL (by rw[ge];omega)]
theorem Iy(hl:dF u (some ⟨k,j,none⟩) i U7)(ao:1≤i)(hn:i≤1000)(hc:i≤h):
 C_ Tryz.prog 97 #[.slice (some ⟨k,j,none⟩) i h] u λq w'=>∃U,q=.returned U∧H_ (cq w' u.heap.size U (cw U7))∧H_ (OS u w'):=by
 have HL:=Y hl;clear hl;refine(callsIn_wide (n:=6)).1 ?_;refine callsIn_of_wp_marks Tryz.func97 rfl trivial ?_ rfl;simp only[Tryz.ntmps97,EQ,fd,ut,Nat.reduceAdd,Nat.reduceSub,ww,AC,LE,fI,pp,i6];gi_wp2_with fail;refine⟨trivial,?_⟩;refine(Ai (n:=5) (a:=some ⟨k,j,none⟩) (g:=i) (k:=h)).mono ?_;rintro q w2 ⟨rfl,rfl⟩;gi_wp2_with fail;obtain⟨y,ab⟩:∃y:W_,H_ (y=((u.alloc (.cells #[.slice none 0 0] 84)).alloc (.cells #[.slice (some ⟨k,j,none⟩) i h] 84)).alloc (.cells #[.int .i64 4] 3)):=⟨_,rfl⟩
 have am:y.heap.size=u.heap.size+3:=by rw[ab.o];simp
 have X0:=Y (show Bx y u.heap.size #[.slice none 0 0] 84 by rw[ab.o];exact((Bx.new u _ _).alloc _).alloc _);have X1:=Y (show Bx y (u.heap.size+1) #[.slice (some ⟨k,j,none⟩) i h] 84 by
  rw[ab.o];have H:=(Bx.new (u.alloc (.cells #[.slice none 0 0] 84)) #[.slice (some ⟨k,j,none⟩) i h] 84).alloc (.cells #[.int .i64 4] 3);rw[dl] at H;exact H)
 have X2:=Y (show Bx y (u.heap.size+2) #[.int .i64 4] 3 by
  rw[ab.o];have H:=Bx.new ((u.alloc (.cells #[.slice none 0 0] 84)).alloc (.cells #[.slice (some ⟨k,j,none⟩) i h] 84)) #[.int .i64 4] 3;rw[dl,dl] at H;exact H)
 have B0:=Y (show OS u y by rw[ab.o];exact((af).alloc (by simp) _).alloc (by simp;omega) _);rw[←ab.o];have ad:u.heap.size+1≤y.heap.size:=by omega
 refine yE (U7:=U7) rfl hn hc (by omega) (by omega) ad (X1.o.cell 0) (X2.o.cell 0) ⟨.slice none 0 0,X0.o,cq.nil _ _,B0.o,OJ _⟩ ?assign ?body ?done;case assign=>
  intro lp pre x W K hi b;simp only[sp,Do,Eq];gi_wp2
  exact b _ _ (KeepsFrom.refl _ _) ⟨ce _ _,rfl,rfl⟩ hi rfl
 case body=>
  rintro lp pre x a' W ⟨v,I,ho,bb,bs⟩ rfl an;have F:=Y I;have t:=Y ho;have O:=Y bb;have G:=Y bs;have c0:=I.cell 0;have L:u.heap.size<W.heap.size:=I.lt;have HU:=Y ((HL.o.later bb).cut x.s x.q x.ok.1);obtain⟨Z,S⟩:∃Z:Nat,H_ (Z=dp ((U7.drop x.s).take x.q)):=⟨_,rfl⟩
  clear I ho bb bs;simp only[sp,Do,Eq] at c0 ⊢;gi_wp2_with fail;refine wpIn_region_any (by kernel_rfl) ?_;change wpAnyIn _ _ _ _ _ _ _ _ _ (World.drew _);refine wpAnyIn_ready (rs:=[0,1]) (by kernel_rfl) (by simp) ?_;refine AllReadyIn.cons rfl (λK b=>?_) ?_
  ·go_simp
   refine b _ _ ?_;clear b K;refine wpAnyIn_ready (rs:=[1]) (by kernel_rfl) (by simp) ?_;refine AllReadyIn.cons rfl (λK b=>?_) ?_
   ·go_simp
    refine b _ _ ?_;clear b K;refine wpAnyIn_ready (rs:=[2]) (by kernel_rfl) (by simp) ?_;refine AllReadyIn.cons rfl (λK b=>?_) ?_
    ·go_simp
     refine⟨trivial,?_⟩;refine(CallsIn.inRound lp (callsIn_wide.2 (jG x.q (HU.o.later (ce _ _).drew) x.ok.2))).mono ?_;rintro q f ⟨rfl,E⟩;rw[←S.o];have e:=Y (show OS W f from(ce _ _).drew.trans E);have c2:f.cell? ⟨u.heap.size,0,none⟩=some v:=(e.o.cell (p:=⟨u.heap.size,0,none⟩) L).trans c0;have T:u.heap.size<f.heap.size:=by have:=e.o.size;omega
     clear E;refine b _ _ ?_;clear b K;refine wpAnyIn_ready (rs:=[3]) (by kernel_rfl) (by simp) ?_;refine AllReadyIn.cons rfl (λK b=>?_) ?_
     ·go_simp
      refine b _ _ ?_;clear b K;refine wpAnyIn_ready (rs:=[4]) (by kernel_rfl) (by simp) ?_;refine AllReadyIn.cons rfl (λK b=>?_) ?_
      ·refine fu rfl (.tmp 8) (.tmp 11) rfl y.heap.size (pre.map λx=>dp ((U7.drop x.s).take x.q)) ?o1 Z f.heap.size ?o2 ?o3 ?o4 ?o5 ?_
       case o1=>exact World.ownsRow.alloc (aW t.o e.o) _
       case o2=>rfl
       case o3=>rw[lw];rfl
       case o4=>rw[pm];omega
       case o5=>have:=e.o.size;have:=G.o;simp;omega
       intro U s r d;have⟨a4,ah,A⟩:=r.form;obtain⟨C,Q⟩:∃C:Nat,H_ (C=((pre.map λx=>dp ((U7.drop x.s).take x.q))++[Z]).length):=⟨_,rfl⟩
       rw[←Q.o] at A;subst A;have N:=Y r;have B:=Y (show f.grownBy s v.ownBlock from⟨d.os,d.tape,d.output,by have:=d.size;simp at this;omega,λz M J=>(d.block z (by simp;omega) J).trans (pi f _ z M)⟩);have D:=Y (show Bx s u.heap.size #[v] 84 from(B.o.block _ T (λq=>by have:=(World.ownsRow.lt t.o _ q.symm).1;omega)).trans (F.o.later e.o L));have c4:s.cell? ⟨u.heap.size,0,none⟩=some v:=D.o.cell 0;have z4:=D.o.frozen;clear r d;refine b _ _ ?_;clear b K;refine wpAnyIn_ready (rs:=[5]) (by kernel_rfl) (by simp) ?_;refine AllReadyIn.cons rfl (λK b=>?_) ?_
       ·go_simp
        refine b _ _ ?_;clear b K;refine wpAnyIn_done (by kernel_rfl) ?_ _;exact j9 ad ⟨by omega,by omega⟩ ⟨by omega,by omega⟩ F.o t.o O.o G.o e.o S.o N.o B.o
       exact AllReadyIn.nil
      exact AllReadyIn.nil
     exact AllReadyIn.nil
    exact AllReadyIn.nil
   exact AllReadyIn.nil
  refine AllReadyIn.cons rfl (λK b=>?_) ?_
  ·go_simp
   refine b _ _ ?_;clear b K;refine wpAnyIn_ready (rs:=[0,2]) (by kernel_rfl) (by simp) ?_;refine AllReadyIn.cons rfl (λK b=>?_) ?_
   ·go_simp
    refine b _ _ ?_;clear b K;refine wpAnyIn_ready (rs:=[2]) (by kernel_rfl) (by simp) ?_;refine AllReadyIn.cons rfl (λK b=>?_) ?_
    ·go_simp
     refine⟨trivial,?_⟩;refine(CallsIn.inRound lp (callsIn_wide.2 (jG x.q (HU.o.later (ce _ _).drew) x.ok.2))).mono ?_;rintro q f ⟨rfl,E⟩;rw[←S.o];have e:=Y (show OS W f from(ce _ _).drew.trans E);have c2:f.cell? ⟨u.heap.size,0,none⟩=some v:=(e.o.cell (p:=⟨u.heap.size,0,none⟩) L).trans c0;have T:u.heap.size<f.heap.size:=by have:=e.o.size;omega
     clear E;refine b _ _ ?_;clear b K;refine wpAnyIn_ready (rs:=[3]) (by kernel_rfl) (by simp) ?_;refine AllReadyIn.cons rfl (λK b=>?_) ?_
     ·go_simp
      refine b _ _ ?_;clear b K;refine wpAnyIn_ready (rs:=[4]) (by kernel_rfl) (by simp) ?_;refine AllReadyIn.cons rfl (λK b=>?_) ?_
      ·refine fu rfl (.tmp 8) (.tmp 11) rfl y.heap.size (pre.map λx=>dp ((U7.drop x.s).take x.q)) ?o1 Z f.heap.size ?o2 ?o3 ?o4 ?o5 ?_
       case o1=>exact World.ownsRow.alloc (aW t.o e.o) _
       case o2=>rfl
       case o3=>rw[lw];rfl
       case o4=>rw[pm];omega
       case o5=>have:=e.o.size;have:=G.o;simp;omega
       intro U s r d;have⟨a4,ah,A⟩:=r.form;obtain⟨C,Q⟩:∃C:Nat,H_ (C=((pre.map λx=>dp ((U7.drop x.s).take x.q))++[Z]).length):=⟨_,rfl⟩
       rw[←Q.o] at A;subst A;have N:=Y r;have B:=Y (show f.grownBy s v.ownBlock from⟨d.os,d.tape,d.output,by have:=d.size;simp at this;omega,λz M J=>(d.block z (by simp;omega) J).trans (pi f _ z M)⟩);have D:=Y (show Bx s u.heap.size #[v] 84 from(B.o.block _ T (λq=>by have:=(World.ownsRow.lt t.o _ q.symm).1;omega)).trans (F.o.later e.o L));have c4:s.cell? ⟨u.heap.size,0,none⟩=some v:=D.o.cell 0;have z4:=D.o.frozen;clear r d;refine b _ _ ?_;clear b K;refine wpAnyIn_ready (rs:=[5]) (by kernel_rfl) (by simp) ?_;refine AllReadyIn.cons rfl (λK b=>?_) ?_
       ·go_simp
        refine b _ _ ?_;clear b K;refine wpAnyIn_done (by kernel_rfl) ?_ _;exact j9 ad ⟨by omega,by omega⟩ ⟨by omega,by omega⟩ F.o t.o O.o G.o e.o S.o N.o B.o
       exact AllReadyIn.nil
      exact AllReadyIn.nil
     exact AllReadyIn.nil
    exact AllReadyIn.nil
   refine AllReadyIn.cons rfl (λK b=>?_) ?_
   ·go_simp
    refine⟨trivial,?_⟩;refine(CallsIn.inRound lp (callsIn_wide.2 (jG x.q (HU.o.later (ce _ _).drew) x.ok.2))).mono ?_;rintro q f ⟨rfl,E⟩;rw[←S.o];have e:=Y (show OS W f from(ce _ _).drew.trans E);have c2:f.cell? ⟨u.heap.size,0,none⟩=some v:=(e.o.cell (p:=⟨u.heap.size,0,none⟩) L).trans c0;have T:u.heap.size<f.heap.size:=by have:=e.o.size;omega
    clear E;refine b _ _ ?_;clear b K;refine wpAnyIn_ready (rs:=[0,3]) (by kernel_rfl) (by simp) ?_;refine AllReadyIn.cons rfl (λK b=>?_) ?_
    ·go_simp
     refine b _ _ ?_;clear b K;refine wpAnyIn_ready (rs:=[3]) (by kernel_rfl) (by simp) ?_;refine AllReadyIn.cons rfl (λK b=>?_) ?_
     ·go_simp
      refine b _ _ ?_;clear b K;refine wpAnyIn_ready (rs:=[4]) (by kernel_rfl) (by simp) ?_;refine AllReadyIn.cons rfl (λK b=>?_) ?_
      ·refine fu rfl (.tmp 8) (.tmp 11) rfl y.heap.size (pre.map λx=>dp ((U7.drop x.s).take x.q)) ?o1 Z f.heap.size ?o2 ?o3 ?o4 ?o5 ?_
       case o1=>exact World.ownsRow.alloc (aW t.o e.o) _
       case o2=>rfl
       case o3=>rw[lw];rfl
       case o4=>rw[pm];omega
       case o5=>have:=e.o.size;have:=G.o;simp;omega
       intro U s r d;have⟨a4,ah,A⟩:=r.form;obtain⟨C,Q⟩:∃C:Nat,H_ (C=((pre.map λx=>dp ((U7.drop x.s).take x.q))++[Z]).length):=⟨_,rfl⟩
       rw[←Q.o] at A;subst A;have N:=Y r;have B:=Y (show f.grownBy s v.ownBlock from⟨d.os,d.tape,d.output,by have:=d.size;simp at this;omega,λz M J=>(d.block z (by simp;omega) J).trans (pi f _ z M)⟩);have D:=Y (show Bx s u.heap.size #[v] 84 from(B.o.block _ T (λq=>by have:=(World.ownsRow.lt t.o _ q.symm).1;omega)).trans (F.o.later e.o L));have c4:s.cell? ⟨u.heap.size,0,none⟩=some v:=D.o.cell 0;have z4:=D.o.frozen;clear r d;refine b _ _ ?_;clear b K;refine wpAnyIn_ready (rs:=[5]) (by kernel_rfl) (by simp) ?_;refine AllReadyIn.cons rfl (λK b=>?_) ?_
       ·go_simp
        refine b _ _ ?_;clear b K;refine wpAnyIn_done (by kernel_rfl) ?_ _;exact j9 ad ⟨by omega,by omega⟩ ⟨by omega,by omega⟩ F.o t.o O.o G.o e.o S.o N.o B.o
       exact AllReadyIn.nil
      exact AllReadyIn.nil
     exact AllReadyIn.nil
    refine AllReadyIn.cons rfl (λK b=>?_) ?_
    ·go_simp
     refine b _ _ ?_;clear b K;refine wpAnyIn_ready (rs:=[0]) (by kernel_rfl) (by simp) ?_;refine AllReadyIn.cons rfl (λK b=>?_) ?_
     ·go_simp
      refine b _ _ ?_;clear b K;refine wpAnyIn_ready (rs:=[4]) (by kernel_rfl) (by simp) ?_;refine AllReadyIn.cons rfl (λK b=>?_) ?_
      ·refine fu rfl (.tmp 8) (.tmp 11) rfl y.heap.size (pre.map λx=>dp ((U7.drop x.s).take x.q)) ?o1 Z f.heap.size ?o2 ?o3 ?o4 ?o5 ?_
       case o1=>exact World.ownsRow.alloc (aW t.o e.o) _
       case o2=>rfl
       case o3=>rw[lw];rfl
       case o4=>rw[pm];omega
       case o5=>have:=e.o.size;have:=G.o;simp;omega
       intro U s r d;have⟨a4,ah,A⟩:=r.form;obtain⟨C,Q⟩:∃C:Nat,H_ (C=((pre.map λx=>dp ((U7.drop x.s).take x.q))++[Z]).length):=⟨_,rfl⟩
       rw[←Q.o] at A;subst A;have N:=Y r;have B:=Y (show f.grownBy s v.ownBlock from⟨d.os,d.tape,d.output,by have:=d.size;simp at this;omega,λz M J=>(d.block z (by simp;omega) J).trans (pi f _ z M)⟩);have D:=Y (show Bx s u.heap.size #[v] 84 from(B.o.block _ T (λq=>by have:=(World.ownsRow.lt t.o _ q.symm).1;omega)).trans (F.o.later e.o L));have c4:s.cell? ⟨u.heap.size,0,none⟩=some v:=D.o.cell 0;have z4:=D.o.frozen;clear r d;refine b _ _ ?_;clear b K;refine wpAnyIn_ready (rs:=[5]) (by kernel_rfl) (by simp) ?_;refine AllReadyIn.cons rfl (λK b=>?_) ?_
       ·go_simp
        refine b _ _ ?_;clear b K;refine wpAnyIn_done (by kernel_rfl) ?_ _;exact j9 ad ⟨by omega,by omega⟩ ⟨by omega,by omega⟩ F.o t.o O.o G.o e.o S.o N.o B.o
       exact AllReadyIn.nil
      exact AllReadyIn.nil
     exact AllReadyIn.nil
    exact AllReadyIn.nil
   exact AllReadyIn.nil
  exact AllReadyIn.nil
 case done=>
  intro ag W hD hi b;have⟨v,I,ho,bb,bs⟩:=hi;have t:=Y ho;have O:=Y bb;have HD:=Y b;have c0:=I.cell 0;simp only[OB,Oz] at c0;clear I ho bb bs b;gi_wp2_with fail;have ai:=grownBy_putObj' W ag (.deferred none);have al:∀ae,some ag=some ae→∃o:Obj,W.heap[ae]?=some o∧o.isCells=false:=λae q=>by cases q;exact⟨_,HD.o,rfl⟩
  have ak:=gG t.o ai al;have hbl:=O.o.grown ai O.o.size (λz q=>by cases q;omega);refine⟨by simp,.inl ⟨_,_,rfl,run_takeDeferred HD.o,?_⟩⟩;generalize W.putObj ag (.deferred none)=WG at*;have aj:cq WG u.heap.size v (cw U7):=by
   have H:cq WG y.heap.size v ((ei i ((i+3)/4)).map λx=>dp ((U7.drop x.s).take x.q)):=ak;rw[Gz HL.o.1] at H;exact World.ownsRow.mono H (by omega)
  exact⟨v,by simp[results,Tryz.results97,go_sem],v,rfl,aj,hbl⟩
end
section
open Go.RowKit
def Mx.gN(n:Nat):Bool:=decide (1<=n/\n<=32)
theorem yo:
 C_ prog 71 #[k] u λe w'=>e=Zv (Zl (gN k))/\w'=u:=by
 by_cases h1:(1:Int)<=k
 ·by_cases h2:(k:Int)<=32
  ·have b:=Y (show gN k=true by unfold gN;simp;omega);go_enter func71,ntmps71;go_wp2;go_ret;exact⟨by rw[b]<;>rfl,rfl⟩
  ·have b:=Y (show gN k=false by unfold gN;simp;omega);go_enter func71,ntmps71;go_wp2;go_ret;exact⟨by rw[b]<;>rfl,rfl⟩
 ·have b:=Y (show gN k=false by unfold gN;simp;omega);go_enter func71,ntmps71;go_wp2;go_ret;exact⟨by rw[b]<;>rfl,rfl⟩
def iZ(w:W_)(a:Option A_)(k:Nat)(ls:List (List Nat)):Prop:=
 ls.length=k/\k<=maxLen/\(0<k->∃b off,a=some ⟨b,off,none⟩/\b<w.heap.size/\∀i l,ls[i]?=some l->∃ai ni ci,w.cell? ⟨b,off+i,none⟩=some (.slice ai ni ci)/\dF w ai ni l/\ni<=ci)
theorem iZ.later{w w':W_}{a:Option A_}{k:Nat}{ls:List (List Nat)}(q:iZ w a k ls)(b:OS w w'):iZ w' a k ls:=by
 have⟨h1,h2,t⟩:=q;refine⟨h1,h2,λj=>?_⟩;have⟨d,e,s,f,hc⟩:=t j;refine⟨d,e,s,by have:=b.size;omega,λi l h=>?_⟩;have⟨r,o,u,c1,c2,c3⟩:=hc i l h;exact⟨r,o,u,(b.cell (p:=(d,e+i)) f).trans c1,c2.later b,c3⟩
theorem iZ.at_{ls:List (List Nat)}(p:iZ u q k ls)(i:Nat)(t:i<k):
 ∃d f l e b h,q=some ⟨d,f,none⟩/\d<u.heap.size/\ls[i]?=some l/\u.cell? ⟨d,f+i,none⟩=some (.slice e b h)/\dF u e b l/\b<=h:=by
 have⟨h1,h2,s⟩:=p;have⟨d,f,r,o,hc⟩:=s (by omega);have j:ls[i]?=ls[i]:=Ox (by omega);have⟨e,b,h,c1,c2,c3⟩:=hc i _ j;exact⟨d,f,ls[i],e,b,h,r,o,j,c1,c2,c3⟩
end
section
open Go.RowKit
variable {w:W_}{a:Option A_}{n base:Nat}{l:List Nat}{P:Nat→Prop}{ls:List (List Nat)}
namespace Mx
theorem tB(f:Nat)(l:List Nat)(h:l.length<=1):fe f l=[l]:=by
 cases f with
 |zero=>rfl
 |succ f=>rw[fe,UY h]
theorem rm(f:Nat)(l:List Nat)(h:¬l.length<=1):fe (f+1) l=l::fe f (cw l):=by rw[fe,UX h]
end Mx
theorem dF.setOther(s:dF w a n l)(q:A_)(v:V_)(h:∀p,a=some p->p.block≠q.block):dF (w.setCell q v) a n l:=by
 have⟨h1,h2,r,t⟩:=s;refine⟨h1,h2,r,λk=>?_⟩;have⟨b,e,d,f,hc⟩:=t k;refine⟨b,e,d,by simpa[World.setCell] using f,λi o=>?_⟩;rw[World.cell?_setCell_far w q ⟨b,e+i,none⟩ v (λj=>h _ d j.symm)];exact hc i o
theorem dF.grownBy{w w':W_}{a:Option A_}{n:Nat}{l:List Nat}{d:Option Nat}(h:dF w a n l)(b:w.grownBy w' d)(k:∀p,a=some p->d≠some p.block):dF w' a n l:=by
 have⟨h1,h2,r,s⟩:=h;refine⟨h1,h2,r,λf=>?_⟩;have⟨j,t,e,u,hc⟩:=s f;refine⟨j,t,e,by have:=b.size;omega,λi q=>?_⟩;exact b.cell (hc i q) (λo=>k _ e o.symm)
def di(w:W_)(base:Nat)(P:Nat->Prop)(v:V_)(ls:List (List Nat)):Prop:=
 ∃vs:List V_,w.ownsRow base 84 1 v ls.length vs/\∀(i:Nat) (l:List Nat),ls[i]?=some l->∃(a:Option A_) (n c:Nat),vs[i]?=some (Value.slice a n c)/\dF w a n l/\n<=c/\1<=n/\∀p,a=some p->v.ownBlock≠some p.block/\P p.block
theorem Tryz.info84:(prog.info? 84).map (λi=>(i.zero,i.size,i.bytes))=some (some (.slice none 0 0),1,24):=by kernel_rfl
theorem di.later{w w':W_}{base:Nat}{P:Nat->Prop}{v:V_}{ls:List (List Nat)}(h:di w base P v ls)(b:OS w w'):di w' base P v ls:=by
 have⟨j,h1,h2⟩:=h;refine⟨j,aW h1 b,λi l d=>?_⟩;have⟨a,n,c,f,k,e⟩:=h2 i l d;exact⟨a,n,c,f,k.later b,e⟩
theorem di.one(o:base<=w)(h:dF w a n l)(hc:n<=k)(f:1<=n)(j:∀p,a=some p->P p.block):
 di (w.alloc (.cells #[(a,n,k)] 84)) base P (w,1,1) [l]:=by
 refine⟨[(a,n,k)],TS (base:=base) (e:=84) (size:=1) w #[(a,n,k)] 1 o (by unfold maxLen;omega) rfl,λi t b=>?_⟩
 match i,b with
 |0,b=>
  simp at b;subst b;refine⟨a,n,k,rfl,h.later (af),hc,f,λp d=>⟨λe=>?_,j p d⟩⟩;have⟨s,u,q,r,_⟩:=h.2.2.2 f;rw[q] at d;cases d
  simp[Value.ownBlock] at e;omega
 |i+1,b=>simp at b
theorem di.setOther{w:W_}{base:Nat}{P:Nat->Prop}{v:V_}{ls:List (List Nat)}(h:di w base P v ls)(q:A_)(u:V_)(f:v.ownBlock≠some q.block)(o:¬P q.block):di (w.setCell q u) base P v ls:=by
 have⟨r,h1,h2⟩:=h;refine⟨r,aB h1 (u:=u) f,λi l d=>?_⟩;have⟨a,n,c,k,x,j,t,b⟩:=h2 i l d;exact⟨a,n,c,k,x.setOther q u (λp e s=>o (by rw[<-s];exact(b p e).2)),j,t,b⟩
theorem di.form(h:di w base P X ls):∃a e,X=.slice a ls.length e:=by
 have⟨f,h1,_⟩:=h;rcases h1.2 with ⟨b,d⟩|⟨g,i,j,b,_⟩
 ·exact⟨none,0,by rw[b,d]⟩
 ·exact⟨_,_,b⟩
theorem di.lv(h:di w base P (a,n,k) ls):iZ w a n ls/\n<=k:=by
 have⟨q,h1,h2⟩:=h;rcases h1.2 with ⟨b,j⟩|⟨g,y,t,b,B,f,u,z,C,s⟩
 ·simp only[Value.slice.injEq] at b;obtain⟨rfl,rfl,rfl⟩:=b;exact⟨⟨j,by unfold maxLen;omega,λh=>absurd h (by omega)⟩,OJ _⟩
 ·simp only[Value.slice.injEq] at b;obtain⟨rfl,rfl,rfl⟩:=b;refine⟨⟨rfl,by omega,λx=>⟨g,0,rfl,(co.1 f).1,λi l d=>?_⟩⟩,u⟩;have⟨a,n,c,p,r,o,_,_⟩:=h2 i l d;have A:i<ls.length:=(OI.1 d).1;refine⟨a,n,c,?_,r,o⟩;rw[cD f,m9,<-GE];have e:(t.toList.take (ls.length*1))[i]?=q[i]?:=by rw[s]
  rw[ul (by omega),p] at e;exact e
theorem kJ{D:Array Oper}{rest:List Oper}{o:Oper}(O:o.guard=none){z:Operand}(ho:o.op=.call {callee:=.builtin .append,args:=#[Vb,z],argTypes:=#[72,72]})(base:Nat){P:Nat->Prop}(ls:List (List Nat))(H:di w base P (Vd.eval Vb) ls)(e:Option A_)(n c:Nat)(B:dF w e n U7)(hc:n<=c)(A:1<=n)(r:∀p,e=some p->(Vd.eval Vb).ownBlock≠some p.block/\P p.block)(hx:Vd.eval z=(w,1,1))(ah:ls.length<=1000000)(ai:base<=w)(j:∀i w',di w' base P i (ls++[U7])->w.grownBy w' (Vd.eval Vb).ownBlock->wpList prog D Vc rest (Vd.put o.dst i) w'):
 wpList prog D Vc (o::rest) Vd (w.alloc (.cells #[(e,n,c)] 84)):=by
 have⟨s,h1,h2⟩:=H;have⟨J,W,L,S,af⟩:=info_parts Tryz.info84;refine wpList_append_own_at _ O Vb z 72 ho base 84 J _ 1 24 Tryz.underlying72 W L S af rfl (by decide) (Vd.eval Vb) ls.length s rfl (World.ownsRow.alloc h1 _) ⟨w,0,none⟩ 1 1 [(e,n,c)] hx rfl (λak aj hj=>?_) (by simp[Value.oneCell']) (by unfold maxLen;omega) (by omega) (by simp;omega) ?_
 ·rw[GT,lw];simpa using hj
 ·intro i w' ab h _ N;have y:w.grownBy w' (Vd.eval Vb).ownBlock:=⟨h.os,h.tape,h.output,by have:=h.size;simp at this;omega,λG hk x=>(h.block G (by simp;omega) x).trans (pi w _ G hk)⟩;have C:∀(p:A_),p.block<w->(Vd.eval Vb).ownBlock≠some p.block->i.ownBlock≠some p.block:=by
   intro p q x t;rcases N with j|j
   ·exact x (j.symm.trans t)
   ·rw[j] at t;simp at t;omega
  refine j i w' ⟨s++[.slice e n c],by rw[OC];exact ab,λk I d=>?_⟩ y;have U:s.length=ls.length:=by have:=h1.1;simpa using this
  by_cases X:k<ls.length
  ·rw[OO X] at d;have⟨a',Q,T,M,F,e3,E,u⟩:=h2 k I d;refine⟨a',Q,T,by rw[OO (by omega)];exact M,F.grownBy y (λp b=>(u p b).1),e3,E,λp b=>⟨?_,(u p b).2⟩⟩;have⟨Y,ae,f,q,_⟩:=F.2.2.2 E;rw[f] at b;cases b
   exact C _ q (u _ f).1
  ·have ag:k<(ls++[U7]).length:=(OI.1 d).1;rw[OC,pu] at ag;obtain rfl:k=ls.length:=by omega
   rw[ON (OJ _),TK] at d;simp at d;subst d;refine⟨e,n,c,by rw[ON (by omega),U,TK];rfl,B.grownBy y (λp b=>(r p b).1),hc,A,λp b=>⟨?_,(r p b).2⟩⟩;have⟨Y,ae,f,q,_⟩:=B.2.2.2 A;rw[f] at b;cases b
   exact C _ q (r _ f).1
end
section
open Go.RowKit
def xF:V_->Nat
 |.slice _ n _=>n
 |_=>0
theorem Bx.one{w:W_}(h:Bx w k #[X] Va):w.cell? k=X:=h.cell 0
theorem Ho(hl:dF u (some ⟨k,j,none⟩) i U7)(az:k<u)(ai:1<=i)(hn:i<=1000)(hc:i<=h):
 C_ prog 73 #[(k,j,i,h)] u λo w'=>∃a t ak,o=Zv (.agg #[.slice a t ak])/\H_ (di w' (u+1) (λq=>q=k\/u+3<=q) (.slice a t ak) (levels U7))/\H_ (OS u w'):=by
 have HL:=Y hl;have HN:=Y hl.1;clear hl;go_enter func73,ntmps73;have⟨F,A⟩:=ZX (((u.alloc (.cells #[Zs] 74)).alloc (.cells #[(k,j,i,h)] 84)).alloc (.cells #[(u.heap.size+1,0,1,1)] 74));have R0:H_ (Bx F u #[Zs] 74):=(by rw[A];exact((Bx.new u _ _).alloc _).alloc _);have T0:=Y (show Bx F (u+2) #[(u.heap.size+1,0,1,1)] 74 by
  rw[A];have s:=Bx.new ((u.alloc (.cells #[Zs] 74)).alloc (.cells #[(k,j,i,h)] 84)) #[(u.heap.size+1,0,1,1)] 74;rw[dl,dl] at s;exact s)
 have B0:=Y (show OS u F by rw[A];exact((af).alloc (by simp) _).alloc (by simp;omega) _);have L0:=Y (show di F (u+1) (λq=>q=k\/u+3<=q) (u.heap.size+1,0,1,1) [U7] by
  rw[A];have s:=di.one (w:=u.alloc (.cells #[Zs] 74)) (base:=u+1) (P:=λq=>q=k\/u+3<=q) (by simp) (HL.later (af)) hc ai (λp e=>by cases e;exact .inl rfl);rw[dl] at s;exact s.later (af))
 have aH:u.heap.size+3<=F:=by rw[A];simp
 go_wp2;rw[<-A];go_loopw [4] (λlv wr=>∃(x r c':Nat) (X:Option A_) (b:List Nat) (f:List (List Nat)) (z:V_),lv=(X,r,c')/\r<=1000/\H_ (b.length<=x+1/\f++fe x b=levels U7/\f.length+r<=i)/\
  H_ (dF wr X r b/\r<=c'/\1<=r/\∀p,X=some p->p.block=k\/u.heap.size+3<=p.block)/\
  H_ (Bx wr (u+2) #[z] 74/\Bx wr u #[Zs] 74/\di wr (u+1) (λq=>q=k\/u+3<=q) z (f++[b])/\OS u wr)) (λlv _=>xF lv)
 case atStart=>exact⟨i,i,h,some ⟨k,j,none⟩,U7,[],_,rfl,hn,⟨by have:=HN.o;omega,by rw[pp,levels,HN],by simp⟩,⟨HL.later B0,hc,ai,λp e=>by cases e;exact .inl rfl⟩,T0,R0,L0,B0⟩
 case round=>
  obtain⟨x,r,c',X,b,f,z,rfl,ax,U,E,d⟩:=hrel;by_cases aG:(1:Int)<r
  ·have⟨b',aI,ha,hbl,_⟩:=E.1.2.2.2 (by omega);subst ha;have ae:=Y E.1.1;go_wp2_with fail;refine(Iy E.1 (by omega) ax E.2.1).mono ?_;rintro o W2 ⟨v2,rfl,ah,H⟩;have⟨W,ao,al⟩:=ah.form;have⟨y,ab⟩:=ZX ((cw b).length);rw[<-ab] at al;subst al;have aq:y+1<=r/\1<=y:=by
    have s:=ab.o;rw[oy,ae] at s;omega
   have G:=Y (ah.read (qb b));have aB:u.heap.size+3<=wr:=by
    have:=d.1.lt;omega
   have L:=Y (show ∀p,W=some p->wr.heap.size<=p.block by
    intro p e;have⟨b2,aD,aC,_,_⟩:=G.1.2.2.2 (by omega);rcases ah.2 with ⟨C,_⟩|⟨g2,aF,aA,C,av,_⟩
    ·simp only[Value.slice.injEq] at C
     rw[C.1] at e;cases e
    ·simp only[Value.slice.injEq] at C
     rw[C.1] at e;cases e
     exact av)
   have N:=Y (d.1.later H d.1.lt);have R2:=Y (d.2.1.later H d.2.1.lt);obtain⟨D,ag⟩:∃D:List (List Nat),H_ (D=f++[b]):=⟨_,rfl⟩;have O:H_ (di W2 (u+1) (λq=>q=k\/u+3<=q) z D):=(by rw[ag];exact d.2.2.1.later H);have B2:=Y (d.2.2.2.trans (H.mono d.2.2.2.size));have am:H_ (∀t,z.ownBlock=some t->t<wr.heap.size):=λt hk=>(World.ownsRow.lt d.2.2.1.choose_spec.1 t hk).2;have t2:=N.one;have aE:=H.size;go_wp2_with (at_builtin;refine kJ rfl rfl (u+1) (P:=λq=>q=k\/u+3<=q) D ?o1 W y ao (U7:=cw b) ?o2 ?o3 ?o4 ?o5 ?o6 ?o7 ?o8 ?_);case o1=>exact O
   case o2=>exact G.1
   case o3=>exact G.2
   case o4=>exact aq.2
   case o5=>
    intro p e;have h1:=L p e;exact⟨λo=>by have:=am _ o;omega,.inr (by omega)⟩
   case o6=>rfl
   case o7=>have:=U.2.2;rw[ag,OC,pu];omega
   case o8=>omega
   intro v4 T ad I;have⟨a4,ap,ar⟩:=ad.form;have⟨N4,au⟩:=ZX ((D++[cw b]).length);rw[<-au] at ar;subst ar;have an:H_ (di T (u+1) (λq=>q=k\/u+3<=q) (a4,N4,ap) (f++[b]++[cw b])):=(by rw[<-ag];exact ad);have q1:=aU O.choose_spec.1 N (by decide);have q2:=aU O.choose_spec.1 R2 (by decide);have M:=Y (show Bx T (u+2) #[z] 74 from(I.block _ N.lt (λo=>q1 o.symm)).trans N);have R4:=Y (show Bx T u #[Zs] 74 from(I.block _ R2.lt (λo=>q2 o.symm)).trans R2);have B4:=Y (B2.grown I B2.size (λt hk=>by have:=(World.ownsRow.lt O.choose_spec.1 t hk).1;omega));have U4:H_ (dF T W y (cw b)):=(G.1.grownBy I (λp e o=>by have:=am _ o;have:=L p e;omega));have q4:=aU an.choose_spec.1 M (by decide);have t4:=M.one;have z4:=M.frozen;obtain⟨B,rfl⟩:∃B,x=B+1:=by
    cases x with
    |zero=>have:=U.1;have:=ae.o;omega
    |succ x=>exact⟨x,rfl⟩
   have ay:=Y (show(cw b).length<=B+1/\f++[b]++fe B (cw b)=levels U7/\(f++[b]).length+y<=i by
    have⟨m1,m2,m3⟩:=U.o;have h1:=ae.o;have h2:=ab.o;refine⟨by omega,?_,by rw[OC,pu];omega⟩;rw[rm B b (by omega)] at m2;rw[eq];exact m2)
   clear ad I t2;go_wp2;go_roundw
   case rel=>
    refine⟨B,y,ao,W,cw b,f++[b],(a4,N4,ap),rfl,by omega,ay,⟨U4.setOther _ _ (λp e=>?_),G.2,aq.2,λp e=>.inr (by have:=L p e;omega)⟩,M.set 0 _,R4.other _ _ (by show u≠u.heap.size+2;omega),an.setOther _ _ q4 ?_,B4.setCell (p:=(u.heap.size+2,0)) (by show u<=u.heap.size+2;omega) _⟩
    ·have:=L p e;show p.block≠u+2;omega
    ·show ¬(u+2=k\/u.heap.size+3<=u+2);omega
   case measure=>show y<r;omega
  ·have HE:=Y (show f++[b]=levels U7 by
    have h1:=E.1.1;rw[<-U.2.1,tB x b (by omega)])
   have⟨Q,J,aj⟩:=d.2.2.1.form;have⟨S,aw⟩:=ZX ((f++[b]).length);rw[<-aw] at aj;subst aj;have t0:=d.1.one;have r0:=d.2.1.one;have rz:=d.2.1.frozen;have q1:=aU d.2.2.1.choose_spec.1 d.2.1 (by decide);go_wp2;have r1:=(show Bx _ _ #[(Q,S,J)] 74 from d.2.1.set 0 (Q,S,J)).one;refine UM (by simp[results,results73,go_sem,r1]) rfl ⟨Q,S,J,rfl,?_,d.2.2.2.setCell (p:=u) (OJ _) _⟩;have s:=d.2.2.1.setOther ⟨u,0,none⟩ (Q,S,J) q1 (by show ¬(u=k\/u.heap.size+3<=u);omega);rw[HE] at s;exact s
end
section
open Go.RowKit
theorem Ie:(madeCells #[Value.int .u64 0] k).toList=List.replicate k (Value.int .u64 0):=by
 rw[List.eq_replicate_iff];refine⟨by simp[madeCells],λd b=>?_⟩;simp only[madeCells,Array.toList_map,m8] at b;obtain⟨i,_,rfl⟩:=b;show #[Value.int .u64 0][i%1]! = _;rw[Nat.mod_one];rfl
theorem Ee(p:k<=1000):∃C:Array V_,(∀w:W_,(Instr.makeSlice 84 (Zb (k:Int)) (Zb (k:Int))).run prog w=.ok (w,k,k) (w.alloc (.cells C 83)))/\
 H_ (∀(w:W_) (base:Nat),base<=w->cq (w.alloc (.cells C 83)) base (w,k,k) (List.replicate k 0)):=by
 have⟨i,d,j,b,o⟩:=info_parts Tryz.info83;refine⟨madeCells #[Value.int .u64 0] (k*1),λw=>?_,λw base f=>?_⟩
 ·have h:=run_makeSlice (P:=prog) w 84 83 i _ Tryz.underlying84 d j .i64 .i64 (k:Int) (k:Int) (by omega) (Ug _) (by rw[b];simp;omega) (by rw[o];omega) (by omega);rw[b] at h;simpa[Value.cells] using h
 ·have h:=TS (base:=base) (e:=83) (size:=1) w (madeCells #[Value.int .u64 0] (k*1)) k f (by unfold maxLen;omega) (UW _ _);unfold cq;rw[Uq,List.map_replicate];rw[Ie,Nat.mul_one] at h;rw[Nat.mul_one];exact h
theorem cq.nk(b:cq u k (j,i,h) U7)(d z:Nat):cq (u.setCell (j,d) (.int .u64 (z:Int))) k (j,i,h) (U7.set d z)/\k<=j/\j<u/\U7.length=i:=by
 rcases b.2 with ⟨hv,_⟩|⟨g',cap',cur,hv,hb,hh,hle,hmx,hcs,htk⟩
 ·cases hv
 ·simp only[Value.slice.injEq,Option.some.injEq,Addr.mk.injEq,US] at hv
  obtain⟨rfl,hn,rfl⟩:=hv;have hbx:Bx u j cur 83:=hh;refine⟨⟨by simp,.inr ⟨j,h,_,by rw[t9,hn],hb,hbx.set d (.int .u64 (z:Int)),by rw[t9];exact hle,hmx,by simpa using hcs,?_⟩⟩,hb,hbx.lt,hn.symm⟩;simp only[Array.toList_setIfInBounds,List.take_set,t9];rw[htk,List.map_set]
theorem MC(H:BL u q k M)(T:∀x∈M,x.ok)(ab:1<=k)(hn:k<=32):
 C_ prog 51 #[(q,k,j)] u λo w'=>∃a' b N,o=Zr #[.agg #[.slice a' b N],Zn]/\H_ (iZ w' a' b (levels (M.map bR))/\b<=N)/\H_ (OS u w'):=by
 have HL:=Y H;have Q:=Y H.1;have ai:=Y T;have ae:=Y (show gN k=true by unfold gN;simp;omega);clear H T;have⟨ak,hC,HC⟩:=Ee (k:=k) (by omega);go_enter func51,ntmps51;go_wp2_with fail;refine(yo (k:=k)).mono ?_;rintro o w1 ⟨rfl,rfl⟩;rw[ae];go_wp2_with fail;have⟨I,C⟩:=ZX ((u.alloc (.cells #[Zs] 74)).alloc (.cells ak 83));rw[<-C];have R0:H_ (Bx I u #[Zs] 74):=(by rw[C];exact(Bx.new u _ _).alloc _);have U0:=Y (show cq I (u+1) (u.heap.size+1,0,k,k) (List.replicate k 0) by
  rw[C];have h:=HC (u.alloc (.cells #[Zs] 74)) (u+1) (by simp);rw[dl] at h;exact h)
 have B0:H_ (OS u I):=(by rw[C];exact(af).alloc (by simp) _);go_loopw [18] (λD wr=>∃b:Nat,b<=k/\D=Zb b/\H_ (Bx wr u #[Zs] 74/\cq wr (u+1) (u.heap.size+1,0,k,k) ((M.take b).map bR++List.replicate (k-b) 0)/\OS u wr)) (λD _=>k-(intOf D).toNat)
 case atStart=>exact⟨0,by omega,rfl,R0,by simpa using U0.o,B0.o⟩
 case round=>
  obtain⟨b,hk,rfl,d⟩:=hrel;by_cases U:b<k
  ·obtain⟨ao,ap,y,rfl,hb,J,e0,e1,e2,e3,e4,e5,e6,e7⟩:=(HL.later d.2.2).at_ b U;have HY:=Y J;have am:=Y (ai y (OR J));clear J;have⟨f,W⟩:=ZX (wr.alloc (.cells y 65));have e:=Y (show Bx f u #[Zs] 74/\cq f (u+1) (u.heap.size+1,0,k,k) ((M.take b).map bR++List.replicate (k-b) 0)/\OS u f by
    rw[W];exact⟨d.1.alloc _,World.ownsRow.alloc d.2.1 _,d.2.2.alloc d.2.2.size _⟩)
   go_wp2_with fail;rw[<-W];clear e0 e1 e2 e3 e4 e5 e6 e7;refine(yr y am (u:=f)).mono ?_;rintro o B ⟨rfl,r⟩;have R3:=Y (e.1.later r e.1.lt);have F:H_ (cq B (u+1) (u.heap.size+1,0,k,k) ((M.take b).map bR++List.replicate (k-b) 0)):=aW e.2.1 r;have B3:=Y (e.2.2.trans (r.mono e.2.2.size));clear r;have⟨Z,hZ⟩:=ZX (bR y);rw[<-hZ];have HS:=Y (F.nk b Z);have al:=Y (F.read (by
    intro ag G;rcases ip.1 G with h|h
    ·obtain⟨x,_,rfl⟩:=m8.1 h
     exact kM x
    ·rw[List.eq_of_mem_replicate h]
     decide)).1
   have⟨b5,aq,x5,X,_,_,_,u0⟩:=al.at_ b U;simp only[Option.some.injEq,Addr.mk.injEq,US] at X;obtain⟨rfl,rfl⟩:=X;rw[m9] at u0;have uz:∀E,B.frozen? ⟨u+1,E,none⟩=false:=by
    rcases F.2 with ⟨i,_⟩|⟨g',ar,ah,i,_,hh,_⟩
    ·cases i
    ·simp only[Value.slice.injEq,Option.some.injEq,Addr.mk.injEq,US] at i;obtain⟨rfl,_,_⟩:=i;exact λE=>(show Bx B (u+1) ah 83 from hh).frozen E
   have aj:=Y (show cq (B.setCell (u.heap.size+1,b) (.int .u64 (Z:Int))) (u+1) (u.heap.size+1,0,k,k) ((M.take (b+1)).map bR++List.replicate (k-(b+1)) 0) by
    have h:=HS.1;have an:((M.take b).map bR).length=b:=by rw[pm,OM,Q];omega
    rw[TO _ _ (by omega),an,TK,show k-b=(k-(b+1))+1 by omega,List.replicate_succ,Eq] at h;rw[az _ _ HY,le,i7,rx,<-hZ,eq];exact h)
   go_wp2_with fail;go_roundw
   case rel=>exact⟨b+1,by omega,by go_num,R3.other _ _ (by show u≠u.heap.size+1;omega),aj,B3.setCell (p:=(u.heap.size+1,b)) (by show u<=u.heap.size+1;omega) _⟩
   case measure=>simp[intOf];omega
  ·have O:=Y (show(M.take b).map bR++List.replicate (k-b) 0=M.map bR by
    rw[OL (by rw[Q];omega),show k-b=0 by omega];simp)
   have HU:=Y (show dF wr (some ⟨u+1,0,none⟩) k (M.map bR) by
    have h:=(d.2.1.read (by
     rw[O];intro ag G;obtain⟨x,_,rfl⟩:=m8.1 G;exact kM x)).1
    rw[O] at h;exact h)
   go_wp2_with fail;have ad:u.heap.size+1<wr:=(World.ownsRow.lt d.2.1 _ rfl).2;refine(Ho HU ad ab (by omega) (OJ _)).mono ?_;rintro o w5 ⟨s,t,A,rfl,L,S⟩;have z:=Y (d.1.later S d.1.lt);have B5:=Y (d.2.2.trans (S.mono d.2.2.size));have r0:=z.one;have rz:=z.frozen;have q5:=aU L.choose_spec.1 z (by decide);go_wp2_with fail;have r1:=(show Bx _ _ #[(s,t,A)] 74 from z.set 0 (s,t,A)).one;refine UM (by simp[results,results51,go_sem,r1]) rfl ⟨s,t,A,rfl,?_,B5.setCell (p:=u) (OJ _) _⟩;exact(L.setOther ⟨u,0,none⟩ (s,t,A) q5 (by show ¬(u=u.heap.size+1\/wr.heap.size+3<=u);omega)).lv
end
section
open Go.RowKit
variable {base n c g:Nat}{w w':W_}{v:V_}{Z:Nat→Prop}{R:Prop}
def Blk(w:W_)(k:Nat):Prop:=∃cs f,w.heap[k]?=some (.cells cs 65 f)
def cL(base:Nat)(w:W_)(v:V_)(n:Nat)(ae:List (List B8))(Z:Nat->Prop):Prop:=
 ∃vs:List V_,w.ownsRow base 76 1 v ae.length vs/\∀(i:Nat) (l:List B8),ae[i]?=some l->∃(a:Option A_) (c:Nat),vs[i]?=(a,n,c)/\BL w a n l/\n<=c/\∀p,a=some p->base<=p.block/\p.block<w/\¬Z p.block/\v.ownBlock≠some p.block/\Blk w p.block
theorem Tryz.info76s:(prog.info? 76).map (λi=>(i.zero,i.size,i.bytes))=some (some (.slice none 0 0),1,24):=by kernel_rfl
theorem cL.nil(base:Nat)(w:W_)(n:Nat)(Z:Nat->Prop):cL base w Zs n [] Z:=⟨[],t8 w base _ 1,λi e b=>by simp at b⟩
theorem cL.lt{base:Nat}{w:W_}{v:V_}{n:Nat}{b:List (List B8)}{Z:Nat->Prop}(h:cL base w v n b Z):∀k,v.ownBlock=some k->base<=k/\k<w.heap.size:=by
 have⟨d,h1,_⟩:=h;exact World.ownsRow.lt h1
theorem cL.ex{T:Nat→Prop}(h:cL base w v n W Z)(hx:Ex T w w')(hT:∀b,T b->b<w.heap.size->Z b)(hv:∀k,v.ownBlock=some k->¬T k):cL base w' v n W Z:=by
 have⟨vs,h1,h2⟩:=h;refine⟨vs,⟨h1.1,?_⟩,λi l hl=>?_⟩
 ·rcases h1.2 with h3|⟨g,cap,cur,rfl,hb,hg,hr⟩
  ·exact .inl h3
  ·exact .inr ⟨g,cap,cur,rfl,hb,(hx.block g (co.1 hg).1 (hv g rfl)).trans hg,hr⟩
 ·have⟨a,c,e1,e2,e3,e4⟩:=h2 i l hl
  exact⟨a,c,e1,⟨e2.1,e2.2.ext hx (λ_ p hp ht=>(e4 p hp).2.2.1 (hT _ ht (e4 p hp).2.1))⟩,e3,λp hp=>⟨(e4 p hp).1,OE (e4 p hp).2.1 hx.size,(e4 p hp).2.2.1,(e4 p hp).2.2.2.1,by
   have⟨cs,f,hk⟩:=(e4 p hp).2.2.2.2;exact⟨cs,f,(hx.block _ (e4 p hp).2.1 (λht=>(e4 p hp).2.2.1 (hT _ ht (e4 p hp).2.1))).trans hk⟩⟩⟩
theorem cL.later(h:cL base w v n W Z)(d:OS w w'):cL base w' v n W Z:=h.ex (T:=λ_=>False) (Ex.below d) (λ_ b=>b.elim) (λ_ _ b=>b)
theorem cL.wd{Z':Nat->Prop}(j:cL base w v n W Z)(h:∀e,e<w.heap.size->Z' e->Z e):cL base w v n W Z':=by
 have⟨q,h1,h2⟩:=j;refine⟨q,h1,λi l f=>?_⟩;have⟨a,c,o,s,k,d⟩:=h2 i l f;exact⟨a,c,o,s,k,λp b=>⟨(d p b).1,(d p b).2.1,λr=>(d p b).2.2.1 (h _ (d p b).2.1 r),(d p b).2.2.2⟩⟩
theorem cL.len(h:cL base w v n W Z):∃a c,v=.slice a W.length c/\W.length<=c:=by
 have⟨d,h1,_⟩:=h;rcases h1.2 with ⟨rfl,h0⟩|⟨g,b,e,rfl,_,_,hc,_⟩
 ·exact⟨none,0,by rw[h0],by omega⟩
 ·exact⟨_,b,rfl,hc⟩
theorem cL.at_(j:cL base w v n W Z)(d:W[i]?=M):∃g b a c,v=.slice (some ⟨g,0,none⟩) W.length b/\g<w.heap.size/\w.cell? ⟨g,i,none⟩=some (.slice a n c)/\BL w a n M/\n<=c:=by
 have⟨s,h1,h2⟩:=j;have⟨a,c,e,p,k,t⟩:=h2 i M d;have r:=(OI.1 d).1;rcases h1.2 with ⟨_,h0⟩|⟨g,b,q,rfl,_,h,hc,_,_,o⟩
 ·omega
 ·have f:Bx w g q 76:=h;refine⟨g,b,a,c,rfl,f.lt,?_,p,k⟩;rw[f.cell i];rw[<-o,ul (by omega),GE] at e;exact e
theorem sP{Z:Nat->Prop}(r:cL k w X j W Z){h0:Nat}(hB:Bx w h0 #[(q,j,i)] 76)(F:BL w q j M)(hc:j<=i)(T:∀p,q=some p->k<=p.block/\p.block<w/\¬Z p.block/\X.ownBlock≠some p.block/\Blk w p.block)(al:W.length<=1000)(U:k<=w):
 ∃s t h w',(Builtin.append_ #[77,77] Va #[X,(h0,1,1)]).run prog w=.ok (.slice s t h) w'/\cL k w' (.slice s t h) j (W++[M]) Z/\w.grownBy w' X.ownBlock/\(Value.ownBlock (.slice s t h)=X.ownBlock\/Value.ownBlock (.slice s t h)=w):=by
 have⟨y,h1,h2⟩:=r;have⟨H,ad,J,Y,ai⟩:=info_parts Tryz.info76s;have⟨z,w',O,ah,u,_,B⟩:=run_append_own_at (P:=prog) w k 77 Va 76 H _ 1 24 Tryz.underlying77 ad J Y ai rfl (by decide) X W.length y h1 ⟨h0,0,none⟩ 1 1 [(q,j,i)] rfl (λE ak hj=>by
  rw[GT,m9,hB.cell E];simpa using hj) (by simp[Value.oneCell']) (by rw[aG];omega) (by omega) U
 have I:∀(p:A_),p.block<w->X.ownBlock≠some p.block->z.ownBlock≠some p.block:=by
  intro p aj af e;rcases B with r|r
  ·exact af (r.symm.trans e)
  ·rw[r] at e;have:=OG e;omega
 have A:∀{q:Option A_} {M:List B8},BL w q j M->(∀p,q=some p->k<=p.block/\p.block<w/\¬Z p.block/\X.ownBlock≠some p.block/\Blk w p.block)->BL w' q j M/\∀p,q=some p->k<=p.block/\p.block<w'/\¬Z p.block/\z.ownBlock≠some p.block/\Blk w' p.block:=
  λC d=>⟨⟨C.1,C.2.grownBy u (λ_ p b=>(d p b).2.2.2.1)⟩,λp b=>⟨(d p b).1,OE (d p b).2.1 u.size,(d p b).2.2.1,I p (d p b).2.1 (d p b).2.2.2.1,by
   have⟨N,ag,hk⟩:=(d p b).2.2.2.2;exact⟨N,ag,(u.block _ (d p b).2.1 (λe=>(d p b).2.2.2.1 e.symm)).trans hk⟩⟩⟩
 have D:cL k w' z j (W++[M]) Z:=by
  refine⟨y++[.slice q j i],by rw[OC];exact ah,λx G f=>?_⟩;have ab:y.length=W.length:=by have:=h1.1;omega
  by_cases hi:x<W.length
  ·rw[OO hi] at f;have⟨a1,c1,L,S,e3,Q⟩:=h2 x G f;have o:=A S Q;exact⟨a1,c1,by rw[OO (by omega)];exact L,o.1,e3,o.2⟩
  ·rw[ON (by omega)] at f
   match e:x-W.length with
   |0=>
    rw[e] at f;simp at f;subst f;have o:=A F T;exact⟨q,i,by rw[ON (by omega),ab,e];rfl,o.1,hc,o.2⟩
   |E+1=>
    rw[e] at f;simp at f
 have⟨s,h,e',_⟩:=D.len;subst e';exact⟨_,_,_,w',O,D,u,B⟩
theorem lj{f:Array Oper}{o:Oper}{K:Act->W_->Prop}{E:Prop}(B:o.guard=none){y:Operand}(z:o.op=Op.call {callee:=Callee.builtin Builtin.append,args:=#[Vb,y],argTypes:=#[77,77]}){ae:List (List B8)}(hs:Vd.eval Vb=v)(r:cL k w v n ae Z){h0:Nat}{ad:Option A_}{l:List B8}(u:Vd.eval y=(h0,1,1))(x:Bx w h0 #[(ad,n,c)] 76)(s:BL w ad n l)(hc:n<=c)(D:∀p,ad=some p->k<=p.block/\p.block<w/\¬Z p.block/\v.ownBlock≠some p.block/\Blk w p.block)(G:ae.length<=1000)(h:k<=w)(t:∀d e b w',H_ (cL k w' (.slice d e b) n (ae++[l]) Z)->H_ (w.grownBy w' v.ownBlock)->H_ (Value.ownBlock (.slice d e b)=v.ownBlock\/Value.ownBlock (.slice d e b)=w)->K (Vd.put o.dst (.slice d e b)) w'):
 if Region.wanted o (yielded f Vd.tmps)=true then Oper.wp prog o Vd w K Vc else E:=by
 have F:Region.wanted o (yielded f Vd.tmps)=true:=by simp[Region.wanted,B]
 rw[UY F];subst hs;have⟨d,e,b,w',A,h1,h2,C⟩:=sP (Va:=o.type) r x s hc D G h;unfold Oper.wp execOp;simp only[z,resolve,invoke,builtin,T7,Uw,T6,Ul,i7,rx,u,A];exact t _ _ _ _ h1 h2 C
def Rds(k:Int):Prop:=k=2
structure Bd (R:Prop) (g base:Nat) (w w':W_):Prop where
 bel:Below base w w'
 de:∀(k:Nat) cs f,w.heap[k]?=some (.cells cs 67 f)->w'.heap[k]?=w.heap[k]?
 bl:∀(k:Nat) cs f,w.heap[k]?=some (.cells cs 65 f)->k≠g->w'.heap[k]?=w.heap[k]?
 rd:R->OS w w'
theorem Bd.of(h:OS w w')(b:base<=w):Bd R g base w w':=⟨h.mono b,λk _ _ e=>h.block k (co.1 e).1,λk _ _ e _=>h.block k (co.1 e).1,λ_=>h⟩
theorem Bd.ex{T:Nat→Prop}(h0:Bd R g base u w)(h:Ex T w w')(hb:base<=w)(hT:∀b,T b->base<=b)(hd:∀b,T b->u.heap.size<=b\/(∀cs f,w.heap[b]?≠some (.cells cs 67 f))/\(b=g\/∀cs f,w.heap[b]?≠some (.cells cs 65 f)))(hr:R->∀b,T b->u.heap.size<=b):Bd R g base u w':=
 ⟨h0.bel.trans (h.toBelow_of hb hT),λk cs f e=>by
  have e1:=h0.de k cs f e;have e2:=e1.trans e;refine(h.block k (co.1 e2).1 (λhk=>?_)).trans e1;rcases hd k hk with h1|h1
  ·have:=(co.1 e).1;omega
  ·exact h1.1 cs f e2,λk cs f e hg=>by
  have e1:=h0.bl k cs f e hg;have e2:=e1.trans e;refine(h.block k (co.1 e2).1 (λhk=>?_)).trans e1;rcases hd k hk with h1|h1
  ·have:=(co.1 e).1;omega
  ·rcases h1.2 with h2|h2
   ·exact hg h2
   ·exact h2 cs f e2,λr=>(h0.rd r).trans (h.toBelow_of (h0.rd r).size (hr r))⟩
theorem Bd.later(h0:Bd R g base u w)(h:OS w w')(d:base<=w):Bd R g base u w':=h0.ex (T:=λ_=>False) (Ex.below h) d (λ_ b=>b.elim) (λ_ b=>b.elim) (λ_ _ b=>b.elim)
theorem Bx.nd{t':TypeId}{cs:Array V_}(h:Bx w g cs Va)(ht:Va≠t')(cs':Array V_)(f:Nat×Nat):w.heap[g]?≠some (.cells cs' t' f):=λh1=>by
 rw[show w.heap[g]?=_ from h] at h1;cases h1;exact ht rfl
theorem rR{q:List V_}(p:w.ownsRow base k j v n q)(h:k≠Va)(b:v.ownBlock=i)(e:Array V_)(o:Nat×Nat):w.heap[i]?≠some (.cells e Va o):=λh1=>by
 rcases p.2 with ⟨d,_⟩|⟨g,r,s,d,_,f,_⟩
 ·rw[d] at b;cases b
 ·rw[d] at b;cases b
  rw[f] at h1;cases h1;exact h rfl
structure ClX (base:Nat) (w:W_) (K n:Nat) (ae:List (List B8)) (now:List B8) (g c:Nat) (v:V_):Prop where
 bx:Bx w K #[.slice (some ⟨g,0,none⟩) n c,v] 79
 kb:base<=K
 nw:ay w base (.slice (some ⟨g,0,none⟩) n c) now
 sn:cL base w v n ae (fun b=>b=K\/b=g)
 nl:now.length=n
 bs:base<=w.heap.size
def ClW(base:Nat)(w:W_)(K n:Nat)(ae:List (List B8))(now:List B8):Prop:=∃g c v,ClX base w K n ae now g c v
theorem ClX.later{base:Nat}{w w':W_}{K n:Nat}{d:List (List B8)}{e:List B8}{g c:Nat}{v:V_}(h:ClX base w K n d e g c v)(b:OS w w'):ClX base w' K n d e g c v:=
 ⟨Bx.later h.bx b (Bx.lt h.bx),h.kb,aW h.nw b,h.sn.later b,h.nl,OP h.bs b.size⟩
theorem ClW.later{base:Nat}{w w':W_}{K n:Nat}{b:List (List B8)}{d:List B8}(h:ClW base w K n b d)(e:OS w w'):ClW base w' K n b d:=by
 have⟨g,c,v,X⟩:=h;exact⟨g,c,v,X.later e⟩
theorem ClX.ng(j:ClX base w k n W M g c v):g≠k/\base<=g/\g<w/\(∀f,v.ownBlock=some f->f≠k/\f≠g)/\∀p,w.frozen? ⟨g,p,none⟩=false:=by
 have h1:w.heap[k]?=some (.cells _ 79 (0,0)):=j.bx;rcases j.nw.2 with ⟨b,_⟩|⟨s,t,r,b,q,h,_⟩
 ·cases b
 ·simp only[Value.slice.injEq,Option.some.injEq,Addr.mk.injEq,US] at b;obtain⟨rfl,_,rfl⟩:=b;have o:Bx w g r 65:=h;refine⟨λe=>?_,q,o.lt,λf d=>?_,o.frozen⟩
  ·subst e;rw[h1] at h;simp at h
  ·have⟨x,h2,_⟩:=j.sn;rcases h2.2 with ⟨e,_⟩|⟨y,z,u,e,_,i,_⟩
   ·rw[e] at d
    cases d
   ·rw[e] at d
    cases d
    constructor
    ·rintro rfl;rw[h1] at i;simp at i
    ·rintro rfl;rw[h] at i;simp at i
theorem jN(p:ClW k u j i W M)(b:W.length=h+1)(r:h<=1000000):
 C_ prog 37 #[(j,0)] u λf w'=>f=Zv (Zb (h:Int))/\w'=u:=by
 have⟨g,c,v,X⟩:=p;have⟨a,q,o,e⟩:=X.sn.len;subst o;have d:=Bx.cell X.bx 1;simp only[OB,OA,Oz] at d;rw[b] at d;clear X e b;go_enter func37,ntmps37;go_wp2_with fail;exact UM (by simp[results,results37,go_sem]) rfl ⟨rfl,rfl⟩
end
section
open Go.RowKit
theorem wM(h1:1<=k)(h2:k<=32):
 C_ prog 35 #[k] u λe w'=>∃K,e=Zv (.pointer (some ⟨K,0,none⟩))/\H_ (ClW u w' K k [List.replicate k zB] (List.replicate k zB))/\H_ (OS u w'):=by
 have⟨C,hC,N⟩:=ia k (by omega);have L:=Y N;clear N;have⟨i,p⟩:=ZX (u.alloc (.cells C 65));have⟨b,t⟩:=ZX (i.alloc (.cells #[(u,k,k),Zs] 79));have⟨K,E⟩:=ZX (u.heap.size+1);have O:=beA p;have T:H_ (ay i u (u,k,k) (List.replicate k zB)):=(by rw[p];exact L u _ (OJ _));have I:=beA t;have q:=Y (show Bx b K #[(u,k,k),Zs] 79 by
  rw[t,E.out,show u.heap.size+1=i.heap.size by rw[p];simp];exact Bx.new i _ _)
 have ai:u<i.heap.size:=by rw[p];simp
 have⟨x0,x1⟩:=q.two;have W:=q.frozen;have am:K<b.heap.size:=q.lt;go_enter func35,ntmps35;go_upto_region 2 with fail;rw[<-p,<-t,<-E.out];have⟨h,j⟩:=ZX (((b.alloc (.cells C 65)).alloc (.cells #[(b,k,k)] 76)).drew);have z:H_ (OS b h):=(by rw[j];exact((af).alloc (by simp) _).drew);have B4:=Y (show Bx h (b+1) #[(b,k,k)] 76 by
  rw[j];have d:=Bx.dC (b.alloc (.cells C 65)) #[(b,k,k)] 76;rw[dl] at d;exact d)
 have ab:H_ (Blk h b):=(by rw[j];exact⟨C,_,(pi _ _ _ (by simp)).trans (UO b _)⟩);have L4:=Y (show BL h (some ⟨b,0,none⟩) k (List.replicate k zB) by
  rw[j];have d:=L b 0 (ol _);have⟨a9,c9,Q,_,M,_⟩:=aF d;injection Q with e1 e2 _
  subst e1;exact⟨by simp,(by rw[Uq] at M;exact M.later ((af).drew))⟩)
 have X4:=Y (Bx.later q z q.lt);have ag:b.heap.size+1<h:=by rw[j];simp
 have ah:i<b.heap.size:=by rw[t];simp
 have aj:u.heap.size<K:=by rw[E.out];omega
 go_region_law (first|(rw[<-j];refine lj (w:=h) rfl (Vb:=.tmp 12) (y:=.tmp 15) rfl (k:=u) (v:=Zs) (n:=k) (ae:=[]) (Z:=λr=>r=K\/r=u) rfl (cL.nil _ _ _ _) (h0:=b+1) (ad:=some ⟨b,0,none⟩) (c:=k) (l:=List.replicate k zB) rfl B4 L4 (OJ _) ?zz4 (by simp) ?zz5 ?_;(case zz4=>(intro al X;cases X;exact⟨by show u<=b.heap.size;omega,by show b<h.heap.size;omega,λe=>by(have e':b.heap.size=K\/b=u.heap.size:=e;omega),(by intro e;cases e),ab⟩));(case zz5=>omega);intro D G F x h1 h2 h3;have H:=Y (Bx.grow X4 h2 (by intro e;cases e));obtain⟨y0,y1⟩:=H.two;have yf:=H.frozen));all_goals
  have⟨J,B⟩:=ZX (x.setCell ⟨K,1,none⟩ (D,G,F));have X6:H_ (Bx J K #[(u,k,k),(D,G,F)] 79):=(by rw[B];exact H.set 1 _);have f:H_ (Ex (λr=>r=K) x J):=(by rw[B];exact Ex.one (ak (au _) _ _));have A:=Y (show OS u x from(O.trans ((I.t z).mono O.size)).trans ⟨h2.os,h2.tape,h2.output,h2.size,λo s=>h2.block o (by omega) (by intro e;cases e)⟩);have U:H_ (ay x u (u,k,k) (List.replicate k zB)):=World.ownsRow.kept (aW T (I.t z)) h2 (.inr (by intro e;cases e));rw[<-B];clear x0 x1 W y0 y1 yf;go_wp2_with fail;refine UM (by simp[results,results35,go_sem]) rfl ⟨K,rfl,⟨u,k,(D,G,F),X6,by omega,?_,?_,by simp,?_⟩,Y ?_⟩
  ·exact World.ownsRow.kept U ⟨f.os,f.tape,f.output,f.size,λo s S=>f.block o s (λe=>S (by rw[e]))⟩ (.inr (λe=>by have d:=OG e;simp at d;omega))
  ·refine h1.ex f (λr hb _=>.inl hb) (λo s e=>?_);have d:=h3.o;rw[s] at d;rcases d with d|d
   ·cases d
   ·have h8:=OG d;omega
  ·exact OP A.size f.size
  ·exact A.trans ⟨f.os,f.tape,f.output,f.size,λo s=>f.block o (by have:=A.size;omega) (by omega)⟩
end
section
open Go.RowKit
variable {K n g c:Nat}{v:V_}
theorem J7{h1 h0:Nat}(h:H_ (ClX k U9 K n W M g c (q,j,i)))(_:1<=n)(_:n<=32)(B0:H_ (OV U9 h0 x y z d))(B1:H_ (OT U9 h1))(DV:H_ (Bd (Rds x) g k u U9))(NE:H_ (h0≠g/\h0≠K/\h1≠g/\h1≠K/\h0≠h1/\k<=h1/\(∀ab,Value.ownBlock (q,j,i)=some ab->ab≠h0/\ab≠h1)/\h1<U9))(hk:H_ (x<0\/11<=x)):
 aA Tryz.f42 (λag w'=>ag=Zr #[Zb 3,()]/\H_ (ClW k w' K n W M)/\H_ (Bd (Rds x) g k u w')) 1 ⟨#[(K,0),X,U,(h0,0),Zi,(h1,0),T,S,Q,O,N,L,J,I,H,G,F,E,D,C,B,A,t,s,r,p,o,f,e,b,aN,br,bL,cE,cM,dC,ed,em,et,g9,eW,fl,gT,iK,jh,jJ,kN,kO,lW,mk,mO,gr,og,oI,pL,ql,qB,rl,rt,sd,so,sB,tH,tJ,tK,tL,tM,ve,vJ,vN,vZ,wp,xE,zi,zy,zA,Ab,Ar,Er,Gj,Gq,JE,JF,JL,JU,Kv,KC,LH,LJ,LQ,Ma,Mb,Mn,Mo,ME,MK,Nc,Np,Ns,NK,NM,NT,NV,Oa,Ov,PP,Us,UZ],[]⟩ U9:=by
 have ad:=Y (iu (x:=zB) B1);have⟨r0,r1,r2,r3,r4,r5,r6,r7,rf⟩:=jt B1;have z0:=B0.cell 0;have z1:=B0.cell 1;simp only[OB,OA,Oz] at z0 z1;have⟨x0,x1⟩:=Bx.two h.bx;have ah:=NE.1;clear ah x0 x1;refine aj rfl ?_;intro K9 ak;rcases hk with af|af
 ·go_wp2_with fail;rw[show(((((((U9.setCell h1 (.int .u8 0)).setCell (h1,1) (.int .u8 0)).setCell (h1,2) (.int .u8 0)).setCell (h1,3) (.int .u8 0)).setCell (h1,4) (.int .u8 0)).setCell (h1,5) (.int .u8 0)).setCell (h1,6) (.int .u8 0)).setCell (h1,7) (.int .u8 0)=U9 from ad];exact UM (by simp[results,results42,go_sem,r0,r1,r2,r3,r4,r5,r6,r7]) rfl ⟨rfl,⟨g,c,_,h⟩,DV⟩
 ·have ai:¬x<0:=by omega
  go_wp2_with fail;rw[show(((((((U9.setCell h1 (.int .u8 0)).setCell (h1,1) (.int .u8 0)).setCell (h1,2) (.int .u8 0)).setCell (h1,3) (.int .u8 0)).setCell (h1,4) (.int .u8 0)).setCell (h1,5) (.int .u8 0)).setCell (h1,6) (.int .u8 0)).setCell (h1,7) (.int .u8 0)=U9 from ad];exact UM (by simp[results,results42,go_sem,r0,r1,r2,r3,r4,r5,r6,r7]) rfl ⟨rfl,⟨g,c,_,h⟩,DV⟩
theorem Al{h1 h0:Nat}(HX:H_ (Bx u K #[(g,n,c),v] 79))(h:H_ (OV u h0 x y z d))(hk:H_ (0<=x/\x<=10/\¬x=0/\¬x=1/\¬x=2))(h3:H_ (∀{v1 v2 v6 v7 v8 v9 Rn M Rr Rq RW RY Sa Sb Sc Se Sf Sh q Ru Rv Rs Rx Ry Rz RA RB RC RE RF RG RH RJ RM Si Sj Sk Sl Sm Sn So Sp Sq Sr Ss St Su Sv Sw Sx Sy Sz SA SB SC SD SE SF SG SH SJ SK SL SM SN SO SP SQ SR SS SU SV SW SX S4 S8 S9 Ta Tb Tc Td Te Tf Tg Th Ti Tj Tk Tl Tm Tn To Tp Tq Tr Ts RN W RP RQ RR RS RT RU:V_},aA Tryz.f42 U8 3 ⟨#[(K,0),v1,v2,(h0,0),Zi,(h1,0),v6,v7,v8,v9,Rn,M,Rr,Rq,RW,RY,Sa,Sb,Sc,Se,Sf,Sh,q,Ru,Rv,Rs,Rx,Ry,Rz,RA,RB,RC,RE,RF,RG,RH,RJ,RM,Si,Sj,Sk,Sl,Sm,Sn,So,Sp,Sq,Sr,Ss,St,Su,Sv,Sw,Sx,Sy,Sz,SA,SB,SC,SD,SE,SF,SG,SH,SJ,SK,SL,SM,SN,SO,SP,SQ,SR,SS,SU,SV,SW,SX,S4,S8,S9,Ta,Tb,Tc,Td,Te,Tf,Tg,Th,Ti,Tj,Tk,Tl,Tm,Tn,To,Tp,Tq,Tr,Ts,RN,W,RP,RQ,RR,RS,RT,RU],[]⟩ u.drew)):
 aA Tryz.f42 U8 1 ⟨#[(K,0),X,U,(h0,0),Zi,(h1,0),T,S,Q,O,N,L,J,I,H,G,F,E,D,C,B,A,t,s,r,p,o,f,e,b,aN,br,bL,cE,cM,dC,ed,em,et,g9,eW,fl,gT,iK,jh,jJ,kN,kO,lW,mk,mO,gr,og,oI,pL,ql,qB,rl,rt,sd,so,sB,tH,tJ,tK,tL,tM,ve,vJ,vN,vZ,wp,xE,zi,zy,zA,Ab,Ar,Er,Gj,Gq,JE,JF,JL,JU,Kv,KC,LH,LJ,LQ,Ma,Mb,Mn,Mo,ME,MK,Nc,Np,Ns,NK,NM,NT,NV,Oa,Ov,PP,Us,UZ],[]⟩ u:=by
 have z0:=h.cell 0;have z1:=h.cell 1;simp only[OB,OA,Oz] at z0 z1;have⟨x0,x1⟩:=Bx.two HX;have⟨k0,k1,i,j,k⟩:=hk.o;have ab:¬x<0:=by omega
 have ae:¬11<=x:=by omega
 have e0:(x==0)=false:=by simpa using i
 have e1:(x==1)=false:=by simpa using j
 have e2:(x==2)=false:=by simpa using k
 have f0:decide (x=0)=false:=by simpa using i
 have f1:decide (x=1)=false:=by simpa using j
 have f2:decide (x=2)=false:=by simpa using k
 refine aj rfl ?_;intro K9 Y;go_wp2_with fail;refine Met.intro (aj rfl ?_);intro K8 ad;go_wp2_with fail;go_region;go_wp2_with fail;exact Met.intro h3
theorem LW{h1 h0:Nat}(HX:H_ (Bx u K #[(g,n,c),v] 79))(h:H_ (OV u h0 x y z d))(hk:x=0)(hr:H_ (0<=y/\y<(n:Int)))(h3:H_ (∀{v1 v2 v6 v7 v8 v9 Rn j Rr Rq RW M Sa Sb Sc Se Sf Sh i Ru Rv Rs Rx Ry Rz RA RB RC RE RF RG RH RJ RM Si Sj Sk Sl Sm Sn So Sp Sq Sr Ss St Su Sv Sw Sx Sy Sz SA SB SC SD SE SF SG SH SJ SK SL SM SN W SP SQ SR SS SU SV q SX S4 S8 S9 Ta Tb Tc Td Te Tf Tg Th Ti Tj Tk Tl Tm Tn To Tp Tq Tr Ts RN k RP RQ RR RS RT RU:V_},aA Tryz.f42 U8 3 ⟨#[(K,0),v1,v2,(h0,0),Zi,(h1,0),v6,v7,v8,v9,Rn,j,Rr,Rq,RW,M,Sa,Sb,Sc,Se,Sf,Sh,i,Ru,Rv,Rs,Rx,Ry,Rz,RA,RB,RC,RE,RF,RG,RH,RJ,RM,Si,Sj,Sk,Sl,Sm,Sn,So,Sp,Sq,Sr,Ss,St,Su,Sv,Sw,Sx,Sy,Sz,SA,SB,SC,SD,SE,SF,SG,SH,SJ,SK,SL,SM,SN,W,SP,SQ,SR,SS,SU,SV,q,SX,S4,S8,S9,Ta,Tb,Tc,Td,Te,Tf,Tg,Th,Ti,Tj,Tk,Tl,Tm,Tn,To,Tp,Tq,Tr,Ts,RN,k,RP,RQ,RR,RS,RT,RU],[]⟩ u.drew)):
 aA Tryz.f42 U8 1 ⟨#[(K,0),X,U,(h0,0),Zi,(h1,0),T,S,Q,O,N,L,J,I,H,G,F,E,D,C,B,A,t,s,r,p,o,f,e,b,aN,br,bL,cE,cM,dC,ed,em,et,g9,eW,fl,gT,iK,jh,jJ,kN,kO,lW,mk,mO,gr,og,oI,pL,ql,qB,rl,rt,sd,so,sB,tH,tJ,tK,tL,tM,ve,vJ,vN,vZ,wp,xE,zi,zy,zA,Ab,Ar,Er,Gj,Gq,JE,JF,JL,JU,Kv,KC,LH,LJ,LQ,Ma,Mb,Mn,Mo,ME,MK,Nc,Np,Ns,NK,NM,NT,NV,Oa,Ov,PP,Us,UZ],[]⟩ u:=by
 subst hk;have z0:=h.cell 0;have z1:=h.cell 1;simp only[OB,OA,Oz] at z0 z1;have⟨x0,x1⟩:=Bx.two HX;have⟨a0,a1⟩:=hr.o;have ab:¬y<0:=by omega
 have Y:¬(n:Int)<=y:=by omega
 have f0:decide (y<0)=false:=by simpa using ab
 have f1:decide ((n:Int)<=y)=false:=by simpa using Y
 refine aj rfl ?_;intro K9 ad;go_wp2_with fail;refine Met.intro (aj rfl ?_);intro K8 ae;go_wp2_with fail;go_region;go_wp2_with fail;exact Met.intro h3
theorem LX{h1 h0:Nat}(HX:H_ (Bx u K #[(g,n,c),v] 79))(h:H_ (OV u h0 x y z d))(hk:x=1)(hr:H_ (0<=y/\y<(n:Int)))(h3:H_ (∀{v1 v2 v6 v7 v8 v9 Rn j Rr Rq RW M Sa Sb Sc Se Sf Sh i Ru Rv Rs Rx Ry Rz RA RB RC RE RF RG RH RJ RM Si Sj Sk Sl Sm Sn So Sp Sq Sr Ss St Su Sv Sw Sx Sy Sz SA SB SC SD SE SF SG SH SJ SK SL SM SN W SP SQ SR SS SU SV q SX S4 S8 S9 Ta Tb Tc Td Te Tf Tg Th Ti Tj Tk Tl Tm Tn To Tp Tq Tr Ts RN k RP RQ RR RS RT RU:V_},aA Tryz.f42 U8 3 ⟨#[(K,0),v1,v2,(h0,0),Zi,(h1,0),v6,v7,v8,v9,Rn,j,Rr,Rq,RW,M,Sa,Sb,Sc,Se,Sf,Sh,i,Ru,Rv,Rs,Rx,Ry,Rz,RA,RB,RC,RE,RF,RG,RH,RJ,RM,Si,Sj,Sk,Sl,Sm,Sn,So,Sp,Sq,Sr,Ss,St,Su,Sv,Sw,Sx,Sy,Sz,SA,SB,SC,SD,SE,SF,SG,SH,SJ,SK,SL,SM,SN,W,SP,SQ,SR,SS,SU,SV,q,SX,S4,S8,S9,Ta,Tb,Tc,Td,Te,Tf,Tg,Th,Ti,Tj,Tk,Tl,Tm,Tn,To,Tp,Tq,Tr,Ts,RN,k,RP,RQ,RR,RS,RT,RU],[]⟩ u.drew)):
 aA Tryz.f42 U8 1 ⟨#[(K,0),X,U,(h0,0),Zi,(h1,0),T,S,Q,O,N,L,J,I,H,G,F,E,D,C,B,A,t,s,r,p,o,f,e,b,aN,br,bL,cE,cM,dC,ed,em,et,g9,eW,fl,gT,iK,jh,jJ,kN,kO,lW,mk,mO,gr,og,oI,pL,ql,qB,rl,rt,sd,so,sB,tH,tJ,tK,tL,tM,ve,vJ,vN,vZ,wp,xE,zi,zy,zA,Ab,Ar,Er,Gj,Gq,JE,JF,JL,JU,Kv,KC,LH,LJ,LQ,Ma,Mb,Mn,Mo,ME,MK,Nc,Np,Ns,NK,NM,NT,NV,Oa,Ov,PP,Us,UZ],[]⟩ u:=by
 subst hk;have z0:=h.cell 0;have z1:=h.cell 1;simp only[OB,OA,Oz] at z0 z1;have⟨x0,x1⟩:=Bx.two HX;have⟨a0,a1⟩:=hr.o;have ab:¬y<0:=by omega
 have Y:¬(n:Int)<=y:=by omega
 have f0:decide (y<0)=false:=by simpa using ab
 have f1:decide ((n:Int)<=y)=false:=by simpa using Y
 refine aj rfl ?_;intro K9 ad;go_wp2;refine Met.intro (aj rfl ?_);intro K8 ae;go_wp2_with fail;go_region;go_wp2;exact Met.intro h3
theorem LY{h1 h0:Nat}(HX:H_ (Bx u K #[(g,n,c),v] 79))(h:H_ (OV u h0 x y z d))(hk:x=2)(hr:H_ (0<=y/\y<(n:Int)))(h3:H_ (∀{v1 v2 v6 v7 v8 v9 Rn j Rr Rq RW M Sa Sb Sc Se Sf Sh i Ru Rv Rs Rx Ry Rz RA RB RC RE RF RG RH RJ RM Si Sj Sk Sl Sm Sn So Sp Sq Sr Ss St Su Sv Sw Sx Sy Sz SA SB SC SD SE SF SG SH SJ SK SL SM SN W SP SQ SR SS SU SV q SX S4 S8 S9 Ta Tb Tc Td Te Tf Tg Th Ti Tj Tk Tl Tm Tn To Tp Tq Tr Ts RN k RP RQ RR RS RT RU:V_},aA Tryz.f42 U8 3 ⟨#[(K,0),v1,v2,(h0,0),Zi,(h1,0),v6,v7,v8,v9,Rn,j,Rr,Rq,RW,M,Sa,Sb,Sc,Se,Sf,Sh,i,Ru,Rv,Rs,Rx,Ry,Rz,RA,RB,RC,RE,RF,RG,RH,RJ,RM,Si,Sj,Sk,Sl,Sm,Sn,So,Sp,Sq,Sr,Ss,St,Su,Sv,Sw,Sx,Sy,Sz,SA,SB,SC,SD,SE,SF,SG,SH,SJ,SK,SL,SM,SN,W,SP,SQ,SR,SS,SU,SV,q,SX,S4,S8,S9,Ta,Tb,Tc,Td,Te,Tf,Tg,Th,Ti,Tj,Tk,Tl,Tm,Tn,To,Tp,Tq,Tr,Ts,RN,k,RP,RQ,RR,RS,RT,RU],[]⟩ u.drew)):
 aA Tryz.f42 U8 1 ⟨#[(K,0),X,U,(h0,0),Zi,(h1,0),T,S,Q,O,N,L,J,I,H,G,F,E,D,C,B,A,t,s,r,p,o,f,e,b,aN,br,bL,cE,cM,dC,ed,em,et,g9,eW,fl,gT,iK,jh,jJ,kN,kO,lW,mk,mO,gr,og,oI,pL,ql,qB,rl,rt,sd,so,sB,tH,tJ,tK,tL,tM,ve,vJ,vN,vZ,wp,xE,zi,zy,zA,Ab,Ar,Er,Gj,Gq,JE,JF,JL,JU,Kv,KC,LH,LJ,LQ,Ma,Mb,Mn,Mo,ME,MK,Nc,Np,Ns,NK,NM,NT,NV,Oa,Ov,PP,Us,UZ],[]⟩ u:=by
 subst hk;have z0:=h.cell 0;have z1:=h.cell 1;simp only[OB,OA,Oz] at z0 z1;have⟨x0,x1⟩:=Bx.two HX;have⟨a0,a1⟩:=hr.o;have ab:¬y<0:=by omega
 have Y:¬(n:Int)<=y:=by omega
 have f0:decide (y<0)=false:=by simpa using ab
 have f1:decide ((n:Int)<=y)=false:=by simpa using Y
 refine aj rfl ?_;intro K9 ad;go_wp2;refine Met.intro (aj rfl ?_);intro K8 ae;go_wp2_with fail;go_region;go_wp2;exact Met.intro h3
end
section
open Go.RowKit
variable {V:W_}{base K n g c:Nat}
theorem lN{h1:Nat}(d:H_ (OT V h1))(u:H_ (U8 (Zr #[Zi,()]) V)){QY W Q0:V_}:
 aA Tryz.f42 U8 4 ⟨#[X,S,Q,U,T,(h1,0),O,N,L,J,I,H,G,F,E,D,C,B,A,t,s,r,p,o,f,e,b,aN,br,bL,cE,cM,dC,ed,em,et,g9,eW,fl,gT,iK,jh,jJ,kN,kO,lW,mk,mO,gr,og,oI,pL,ql,qB,rl,rt,sd,so,sB,tH,tJ,tK,tL,tM,ve,vJ,vN,vZ,wp,xE,zi,zy,zA,Ab,Ar,Er,Gj,Gq,JE,JF,JL,JU,Kv,KC,LH,LJ,LQ,Ma,Mb,Mn,Mo,ME,MK,Nc,Np,Ns,NK,NM,NT,NV,Oa,Ov,PP,Us,UZ,QY,W,Q0],[]⟩ V:=by
 refine bg (c:=.seq _ .ret) rfl ?_;have y:H_ ((((((((V.setCell h1 (Za 0)).setCell (h1,1) (Za 0)).setCell (h1,2) (Za 0)).setCell (h1,3) (Za 0)).setCell (h1,4) (Za 0)).setCell (h1,5) (Za 0)).setCell (h1,6) (Za 0)).setCell (h1,7) (Za 0)=V):=iu (x:=zB) d;have⟨k,j,r2,h,q,z,i,M,rf⟩:=jt d;go_wp2;rw[y];exact UM (by simp[results,results42,go_sem,k,j,r2,h,q,z,i,M]) rfl u
theorem CO{h0 h1:Nat}(HX:H_ (ClX base V K n W M g c (q,k,j)))(af:1<=n)(ad:n<=32)(B0:H_ (OV V h0 x y z d))(B1:H_ (OT V h1))(DV:H_ (Bd (Rds x) g base u V))(NE:H_ (h0≠g/\h0≠K/\h1≠g/\h1≠K/\h0≠h1/\base<=h1/\(∀h,Value.ownBlock (q,k,j)=some h->h≠h0/\h≠h1)/\base<=u/\u<=h1))(hk:H_ (¬x=0/\¬x=1/\¬x=2/\¬x=3/\¬x=8)):
 aA Tryz.f42 (λag w'=>ag=Zr #[Zi,()]/\H_ (ClW base w' K n W M)/\H_ (Bd (Rds x) g base u w')) 3 ⟨#[(K,0),X,U,(h0,0),Zi,(h1,0),T,S,Q,O,N,L,J,I,H,G,F,E,D,C,B,A,t,s,r,p,o,f,e,b,aN,br,bL,cE,cM,dC,ed,em,et,g9,eW,fl,gT,iK,jh,jJ,kN,kO,lW,mk,mO,gr,og,oI,pL,ql,qB,rl,rt,sd,so,sB,tH,tJ,tK,tL,tM,ve,vJ,vN,vZ,wp,xE,zi,zy,zA,Ab,Ar,Er,Gj,Gq,JE,JF,JL,JU,Kv,KC,LH,LJ,LQ,Ma,Mb,Mn,Mo,ME,MK,Nc,Np,Ns,NK,NM,NT,NV,Oa,Ov,PP,Us,UZ],[]⟩ V:=by
 have i:=B0.cell 0;simp only[OB,Oz] at i;have ab:1<=n/\n<=32:=⟨af,ad⟩;clear ab;have ah:=NE.1;clear ah;have⟨q0,q1,q2,q3,q8⟩:=hk.o;refine aj rfl ?_;intro K9 ai;go_wp2;exact Met.intro (lN B1 (Y ⟨rfl,Y ⟨g,c,_,HX.o⟩,DV⟩))
theorem pP(h:M[j]?=d)(k:i<8):(bp M)[j*8+i]?=d.cs[i]?:=by
 have b:=(OI.1 h).1;have h1:M=M.take j++M.drop j:=(qr j M).symm;have h2:M.drop j=d::M.drop (j+1):=by
  rw[Fn b];rw[Ox b] at h;rw[OG h]
 have e:bp M=bp (M.take j)++(d.cs++bp (M.drop (j+1))):=by
  conv=>lhs;rw[h1,h2]
  unfold bp;rw[wt,Id]
 have f:(bp (M.take j)).length=j*8:=by rw[cY,OM,Uj (by omega)]
 have o:d.cs.length=8:=rfl;rw[e,ON (by omega),f,show j*8+i-j*8=i by omega,OO (by omega)]
theorem rJ(h:ay u base X M):ay u.drew base X M:=h
theorem zh(w:W_)(g:Nat)(x:B8):Ex (λb=>b=g) w (aV w g k x):=Ex.one (ak (ak (ak (ak (ak (ak (ak (ak (au _) _ _) _ _) _ _) _ _) _ _) _ _) _ _) _ _)
theorem Ak{h0 h1:Nat}(h:H_ (ClX base V K n W M g c (q,k,i)))(ax:1<=n)(aw:n<=32)(B0:H_ (OV V h0 x y z d))(B1:H_ (OT V h1))(DV:H_ (Bd (Rds x) g base u V))(NE:H_ (h0≠g/\h0≠K/\h1≠g/\h1≠K/\h0≠h1/\base<=h1/\(∀ad,Value.ownBlock (q,k,i)=some ad->ad≠h0/\ad≠h1)/\base<=u/\u<=h1))(hk:x=0)(hj:y=(j:Int))(aq:H_ (j<n)):
 aA Tryz.f42 (λab w'=>ab=Zr #[Zi,()]/\H_ (ClW base w' K n W (M.set j d))/\H_ (Bd (Rds x) g base u w')) 3 ⟨#[(K,0),X,U,(h0,0),Zi,(h1,0),T,S,Q,O,N,L,J,I,H,G,F,E,D,C,B,A,t,s,r,p,o,f,e,b,aN,br,bL,cE,cM,dC,ed,em,et,g9,eW,fl,gT,iK,jh,jJ,kN,kO,lW,mk,mO,gr,og,oI,pL,ql,qB,rl,rt,sd,so,sB,tH,tJ,tK,tL,tM,ve,vJ,vN,vZ,wp,xE,zi,zy,zA,Ab,Ar,Er,Gj,Gq,JE,JF,JL,JU,Kv,KC,LH,LJ,LQ,Ma,Mb,Mn,Mo,ME,MK,Nc,Np,Ns,NK,NM,NT,NV,Oa,Ov,PP,Us,UZ],[]⟩ V:=by
 have z0:=B0.cell 0;simp only[OB,Oz] at z0;have au:1<=n/\n<=32:=⟨ax,aw⟩;clear au;subst hk;subst hj;obtain⟨x0,x1⟩:=Bx.two h.bx;have z1:=B0.cell 1;simp only[OB,OA,Oz] at z1;have c3:=B0.cell 3;have c4:=B0.cell 4;have c5:=B0.cell 5;have c6:=B0.cell 6;have c7:=B0.cell 7;have c8:=B0.cell 8;have c9:=B0.cell 9;have an:=B0.cell 10;simp only[OB,OA,Oz] at c3 c4 c5 c6 c7 c8 c9 an;have am:=aq.o;have az:(j:Int)<(n:Int):=by omega
 have NG:=Y h.ng;obtain⟨al,hy⟩:∃al,M[j]?=some al:=⟨_,Ox (by rw[h.nl];exact am)⟩;have gc:∀ag ah,al.cs[ag]?=some ah->V.cell? (g,j*8+ag)=some ah:=λag ah hu=>by
  obtain⟨a9,c9,ap,_,av,_⟩:=aF h.nw;obtain⟨b9,o9,ak,_,ar⟩:=av.2.2 (by rw[h.nl];omega);have e9:a9=some ⟨g,0,none⟩:=by injection ap with e9;exact e9.symm
  rw[e9] at ak;injection ak with ak;injection ak with hb9 ho9;subst hb9 ho9;have h9:=ar (j*8+ag) ah (by rw[pP hy (by have:=(OI.1 hu).1;exact this)];exact hu);rw[m9] at h9;exact h9
 have g0:=gc 0 _ rfl;have g1:=gc 1 _ rfl;have g2:=gc 2 _ rfl;have g3:=gc 3 _ rfl;have g4:=gc 4 _ rfl;have g5:=gc 5 _ rfl;have g6:=gc 6 _ rfl;have g7:=gc 7 _ rfl;rw[wn] at g0;have gf:=NG.2.2.2.2;clear gc;refine aj rfl ?_;intro K9 aB;go_upto_region 7 with fail;go_region;obtain⟨W5,af⟩:=ZX ((aV V g (j*8) d).drew);have O5:H_ (ay W5 base (g,n,c) (M.set j d)):=(by rw[af];exact rJ (h.nw.put j (by rw[h.nl];exact am) d));have E5:H_ (Ex (λai=>ai=g) V W5):=(by rw[af];exact(zh V g (k:=j*8) d).trans (Ex.below (Below.refl _ _).drew));unfold aV at af;rw[<-af];clear af;have ao:=NE.o;have B5:=Y (Ex.bx E5 B1 ao.2.2.1);have X5:=Y (show ClX base W5 K n W (M.set j d) g c (q,k,i) from⟨Ex.bx E5 h.bx (λab=>NG.1 ab.symm),h.kb,O5,h.sn.ex E5 (λai hb _=>.inr hb) (λad hk ab=>(NG.2.2.2.1 ad hk).2 ab),by rw[List.length_set];exact h.nl,OP h.bs E5.size⟩);have F5:H_ (Bd _ g base u W5):=(DV.ex E5 h.bs (λai hb=>by rw[hb];exact NG.2.1) (λai hb=>.inr ⟨rR h.nw (by decide) (by rw[hb];rfl),.inl hb⟩) (λab=>absurd ab (by unfold Rds;decide)));clear x0 x1 z1 c3 c4 c5 c6 c7 c8 c9 an g0 g1 g2 g3 g4 g5 g6 g7 gf ao;go_wp2;exact Met.intro (lN B5 (Y ⟨rfl,Y ⟨g,c,_,X5.o⟩,F5⟩))
theorem CQ{h0 h1:Nat}(h:H_ (ClX base V K n W M g c (q,k,i)))(ax:1<=n)(aw:n<=32)(B0:H_ (OV V h0 x y z d))(B1:H_ (OT V h1))(DV:H_ (Bd (Rds x) g base u V))(NE:H_ (h0≠g/\h0≠K/\h1≠g/\h1≠K/\h0≠h1/\base<=h1/\(∀af,Value.ownBlock (q,k,i)=some af->af≠h0/\af≠h1)/\base<=u/\u<=h1))(hk:x=1)(hj:y=(j:Int))(aq:H_ (j<n)):
 aA Tryz.f42 (λab w'=>ab=Zr #[Zi,()]/\H_ (ClW base w' K n W (M.set j zB))/\H_ (Bd (Rds x) g base u w')) 3 ⟨#[(K,0),X,U,(h0,0),Zi,(h1,0),T,S,Q,O,N,L,J,I,H,G,F,E,D,C,B,A,t,s,r,p,o,f,e,b,aN,br,bL,cE,cM,dC,ed,em,et,g9,eW,fl,gT,iK,jh,jJ,kN,kO,lW,mk,mO,gr,og,oI,pL,ql,qB,rl,rt,sd,so,sB,tH,tJ,tK,tL,tM,ve,vJ,vN,vZ,wp,xE,zi,zy,zA,Ab,Ar,Er,Gj,Gq,JE,JF,JL,JU,Kv,KC,LH,LJ,LQ,Ma,Mb,Mn,Mo,ME,MK,Nc,Np,Ns,NK,NM,NT,NV,Oa,Ov,PP,Us,UZ],[]⟩ V:=by
 have z0:=B0.cell 0;simp only[OB,Oz] at z0;have au:1<=n/\n<=32:=⟨ax,aw⟩;clear au;subst hk;subst hj;have⟨x0,x1⟩:=Bx.two h.bx;have z1:=B0.cell 1;simp only[OB,OA,Oz] at z1;have am:=aq.o;have az:(j:Int)<(n:Int):=by omega
 have NG:=Y h.ng;obtain⟨al,hy⟩:∃al,M[j]?=some al:=⟨_,Ox (by rw[h.nl];exact am)⟩;have gc:∀ag ah,al.cs[ag]?=some ah->V.cell? (g,j*8+ag)=some ah:=λag ah hu=>by
  have⟨a9,c9,ap,_,av,_⟩:=aF h.nw;have⟨b9,o9,ak,_,ar⟩:=av.2.2 (by rw[h.nl];omega);have e9:a9=some ⟨g,0,none⟩:=by injection ap with e9;exact e9.symm
  rw[e9] at ak;injection ak with ak;injection ak with hb9 ho9;subst hb9 ho9;have h9:=ar (j*8+ag) ah (by rw[pP hy (by have:=(OI.1 hu).1;exact this)];exact hu);rw[m9] at h9;exact h9
 have g0:=gc 0 _ rfl;have g1:=gc 1 _ rfl;have g2:=gc 2 _ rfl;have g3:=gc 3 _ rfl;have g4:=gc 4 _ rfl;have g5:=gc 5 _ rfl;have g6:=gc 6 _ rfl;have g7:=gc 7 _ rfl;rw[wn] at g0;have gf:=NG.2.2.2.2;clear gc;refine aj rfl ?_;intro K9 aB;go_upto_region 9 with fail;go_region;have⟨W5,ad⟩:=ZX ((aV V g (j*8) zB).drew);have O5:H_ (ay W5 base (g,n,c) (M.set j zB)):=(by rw[ad];exact rJ (h.nw.put j (by rw[h.nl];exact am) zB));have E5:H_ (Ex (λai=>ai=g) V W5):=(by rw[ad];exact(zh V g (k:=j*8) zB).trans (Ex.below (ce _ _).drew));have an:H_ (W5=((((((((V.setCell (g,j*8) (Za 0)).setCell (g,j*8+1) (Za 0)).setCell (g,j*8+2) (Za 0)).setCell (g,j*8+3) (Za 0)).setCell (g,j*8+4) (Za 0)).setCell (g,j*8+5) (Za 0)).setCell (g,j*8+6) (Za 0)).setCell (g,j*8+7) (Za 0)).drew):=ad;clear ad;have ad:=an;clear an;rw[<-ad];clear ad;have ao:=NE.o;have B5:=Y (Ex.bx E5 B1 ao.2.2.1);have X5:=Y (show ClX base W5 K n W (M.set j zB) g c (q,k,i) from⟨Ex.bx E5 h.bx (λab=>NG.1 ab.symm),h.kb,O5,h.sn.ex E5 (λai hb _=>.inr hb) (λaf hk ab=>(NG.2.2.2.1 af hk).2 ab),by rw[t9];exact h.nl,OP h.bs E5.size⟩);have F5:H_ (Bd _ g base u W5):=(DV.ex E5 h.bs (λai hb=>by rw[hb];exact NG.2.1) (λai hb=>.inr ⟨rR h.nw (by decide) (by rw[hb];rfl),.inl hb⟩) (λab=>absurd ab (by unfold Rds;decide)));clear x0 x1 z1  g0 g1 g2 g3 g4 g5 g6 g7 gf ao;go_wp2;exact Met.intro (lN B5 (Y ⟨rfl,Y ⟨g,c,_,X5.o⟩,F5⟩))
theorem CP{h0 h1:Nat}(HX:H_ (ClX base V K n W M g c (q,k,i)))(au:1<=n)(an:n<=32)(B0:H_ (OV V h0 x y z d))(B1:H_ (OT V h1))(DV:H_ (Bd (Rds x) g base u V))(NE:H_ (h0≠g/\h0≠K/\h1≠g/\h1≠K/\h0≠h1/\base<=h1/\(∀ah,Value.ownBlock (q,k,i)=some ah->ah≠h0/\ah≠h1)/\base<=u/\u<=h1)){ad:B8}(hk:x=2)(hj:y=(j:Int))(ao:H_ (j<n))(HY:H_ (M[j]?=ad))(HZ:H_ (cL base V (q,k,i) n W (λh=>(h=K\/h=g)\/h=h1))):
 aA Tryz.f42 (λab w'=>ab=Zr #[Zi,ad]/\H_ (ClW base w' K n W M)/\H_ (Bd (Rds x) g base u w')) 3 ⟨#[(K,0),X,U,(h0,0),Zi,(h1,0),T,S,Q,O,N,L,J,I,H,G,F,E,D,C,B,A,t,s,r,p,o,f,e,b,aN,br,bL,cE,cM,dC,ed,em,et,g9,eW,fl,gT,iK,jh,jJ,kN,kO,lW,mk,mO,gr,og,oI,pL,ql,qB,rl,rt,sd,so,sB,tH,tJ,tK,tL,tM,ve,vJ,vN,vZ,wp,xE,zi,zy,zA,Ab,Ar,Er,Gj,Gq,JE,JF,JL,JU,Kv,KC,LH,LJ,LQ,Ma,Mb,Mn,Mo,ME,MK,Nc,Np,Ns,NK,NM,NT,NV,Oa,Ov,PP,Us,UZ],[]⟩ V:=by
 have z0:=B0.cell 0;simp only[OB,Oz] at z0;have aq:1<=n/\n<=32:=⟨au,an⟩;clear aq;subst hk;subst hj;have⟨x0,x1⟩:=Bx.two HX.bx;have z1:=B0.cell 1;simp only[OB,OA,Oz] at z1;have ax:=ao.o;have av:(j:Int)<(n:Int):=by omega
 have NG:=Y HX.ng;have hy:=HY.o;have⟨w0,w1,w2,w3,w4,w5,w6,w7,wf⟩:=jt B1;have gc:∀ai ak,ad.cs[ai]?=some ak->V.cell? (g,j*8+ai)=some ak:=λai ak hu=>by
  have⟨a9,c9,am,_,ar,_⟩:=aF HX.nw;have⟨b9,o9,al,_,ap⟩:=ar.2.2 (by rw[HX.nl];omega);have e9:a9=some ⟨g,0,none⟩:=by injection am with e9;exact e9.symm
  rw[e9] at al;injection al with al;injection al with hb9 ho9;subst hb9 ho9;have h9:=ap (j*8+ai) ak (by rw[pP hy (by have:=(OI.1 hu).1;exact this)];exact hu);rw[m9] at h9;exact h9
 have g0:=gc 0 _ rfl;have g1:=gc 1 _ rfl;have g2:=gc 2 _ rfl;have g3:=gc 3 _ rfl;have g4:=gc 4 _ rfl;have g5:=gc 5 _ rfl;have g6:=gc 6 _ rfl;have g7:=gc 7 _ rfl;rw[wn] at g0;have gf:=NG.2.2.2.2;clear gc;refine aj rfl ?_;intro K9 aw;go_upto_region 11 with fail;go_region;have⟨W5,ag⟩:=ZX ((lr V h1 ad).drew);have B5:H_ (OU W5 h1 ad):=(by rw[ag];exact(sr B1 ad).cM);have E5:H_ (Ex (λh=>h=h1) V W5):=(by rw[ag];exact(Ex.one (mi V h1 ad)).trans (Ex.below (ce _ _).drew));unfold lr at ag;rw[<-ag];clear ag;have af:=NE.o;have X5:=Y (show ClX base W5 K n W M g c (q,k,i) from⟨Ex.bx E5 HX.bx (λab=>af.2.2.2.1 ab.symm),HX.kb,World.ownsRow.kept HX.nw ⟨E5.os,E5.tape,E5.output,E5.size,λh hb hn=>E5.block h hb (λab=>hn (by rw[ab]))⟩ (.inr (λab=>af.2.2.1 (OG ab).symm)),(HZ.ex E5 (λh hb _=>.inr hb) (λah hk ab=>(af.2.2.2.2.2.2.1 ah hk).2 ab)).wd (λh _ hb=>.inl hb),HX.nl,OP HX.bs E5.size⟩);have F5:H_ (Bd _ g base u W5):=DV.ex E5 HX.bs (λh hb=>by rw[hb];exact af.2.2.2.2.2.1) (λh hb=>.inl (by rw[hb];exact af.2.2.2.2.2.2.2.2)) (λ_ h hb=>by rw[hb];exact af.2.2.2.2.2.2.2.2);clear x0 x1 z1 g0 g1 g2 g3 g4 g5 g6 g7 gf af w0 w1 w2 w3 w4 w5 w6 w7 wf;have⟨r0,r1,r2,r3,r4,r5,r6,r7⟩:=B5.eight;go_wp2;exact UM (by simp[results,results42,go_sem,r0,r1,r2,r3,r4,r5,r6,r7]) rfl ⟨rfl,⟨g,c,_,X5⟩,F5⟩
end
section
open Go.RowKit
variable {n c base K g:Nat}{a:Option A_}{V:W_}
theorem ay.bl_(h:ay u k (a,n,c) M):BL u a n M/\n<=c/\∀p,a=some p->k<=p.block:=by
 have⟨i,f,b,hc,e,d⟩:=aF h;cases b
 exact⟨⟨rfl,e⟩,hc,d⟩
structure LD (V w5:W_) (n:Nat) (l:List B8) (a:Option A_) (c:Nat):Prop where
 d:OS V w5
 bl:BL w5 a n l
 nc:n<=c
 lo:∀p,a=some p->V.heap.size<=p.block/\p.block<w5.heap.size
 ow:ay w5 V.heap.size (.slice a n c) l
theorem EI(c:Nat)(d:BL u q k M)(t:0<k)(A:k<=1000):
 C_ prog 68 #[(q,k,c)] u.drew λj i=>∃b c5,j=Zv (.slice b k c5)/\H_ (LD u i k M b c5):=by
 have h:OS u u.drew:=(ce _ _).drew;refine(uA (g:=c) (d.later h) (by omega)).mono ?_;rintro j i ⟨C,rfl,o5,x⟩;have⟨b,c5,p,o,f,y⟩:=aF o5;rw[d.1] at p o f;subst p;refine⟨b,c5,rfl,Y ⟨h.trans x,⟨d.1,f⟩,o,λs e=>⟨y s e,?_⟩,o5⟩⟩;have⟨B,D,z,r,_⟩:=f.2.2 t;rw[z] at e;cases e
 exact r
structure NP (base:Nat) (V w5 w6:W_) (K n:Nat) (ae:List (List B8)) (now:List B8) (g c:Nat) (v:V_) (l:List B8) (a:Option A_) (c5:Nat):Prop where
 d:OS V w6
 bx:Bx w6 w5.heap.size #[.slice a n c5] 76
 bl:BL w6 a n l
 sn:cL base w6 v n ae (fun b=>b=K\/b=g)
 kx:Bx w6 K #[.slice (some ⟨g,0,none⟩) n c,v] 79
 lo:∀p,a=some p->base<=p.block/\p.block<w6.heap.size/\¬(p.block=K\/p.block=g)/\v.ownBlock≠some p.block/\Blk w6 p.block
 hb:base<=w6.heap.size
theorem Od{l:List B8}{c5:Nat}(b:ClX base V K n W M g c X)(h:LD V u n l a c5):NP base V u (u.alloc (.cells #[(a,n,c5)] 76)) K n W M g c X l a c5:=by
 have d:OS V (u.alloc (.cells #[(a,n,c5)] 76)):=h.d.alloc h.d.size _;have j:=Bx.lt b.bx;refine⟨d,Bx.new u _ _,h.bl.later (af),b.sn.later d,Bx.later b.bx d j,λp e=>?_,OP b.bs d.size⟩;have⟨h1,h2⟩:=h.lo p e;have r:=b.bs;have o:=b.ng.2.2.1;refine⟨by omega,by simp;omega,by omega,λk=>?_,?_⟩
 ·have s:=(b.sn.lt _ k).2;omega
 ·rcases h.ow.2 with ⟨hv,_⟩|⟨q,cap,f,hv,_,i,_⟩
  ·rw[e] at hv;cases hv
  ·rw[e] at hv;cases hv
   exact⟨f,_,(pi _ _ _ h2).trans i⟩
theorem LZ{h1 h0:Nat}(i:H_ (ClX base U9 K n W M g c (q,k,j)))(ah:1<=n)(ag:n<=32)(B0:H_ (OV U9 h0 x y z d))(B1:H_ (OT U9 h1))(DV:H_ (Bd (Rds x) g base u U9))(NE:H_ (h0≠g/\h0≠K/\h1≠g/\h1≠K/\h0≠h1/\base<=h1/\(∀ab,Value.ownBlock (q,k,j)=some ab->ab≠h0/\ab≠h1)/\base<=u/\u<=h1))(hk:x=0)(hr:H_ (y<0\/(n:Int)<=y)):
 aA Tryz.f42 (λad w'=>ad=Zr #[Zb 1,()]/\H_ (ClW base w' K n W M)/\H_ (Bd (Rds x) g base u w')) 1 ⟨#[(K,0),X,U,(h0,0),Zi,(h1,0),T,S,Q,O,N,L,J,I,H,G,F,E,D,C,B,A,t,s,r,p,o,f,e,b,aN,br,bL,cE,cM,dC,ed,em,et,g9,eW,fl,gT,iK,jh,jJ,kN,kO,lW,mk,mO,gr,og,oI,pL,ql,qB,rl,rt,sd,so,sB,tH,tJ,tK,tL,tM,ve,vJ,vN,vZ,wp,xE,zi,zy,zA,Ab,Ar,Er,Gj,Gq,JE,JF,JL,JU,Kv,KC,LH,LJ,LQ,Ma,Mb,Mn,Mo,ME,MK,Nc,Np,Ns,NK,NM,NT,NV,Oa,Ov,PP,Us,UZ],[]⟩ U9:=by
 have z0:=B0.cell 0;simp only[OB,Oz] at z0;have af:1<=n/\n<=32:=⟨ah,ag⟩;clear af;subst hk;have z1:=B0.cell 1;simp only[OB,OA,Oz] at z1;have⟨x0,x1⟩:=Bx.two i.bx;have ai:=NE.1;clear ai;have HI:H_ ((((((((U9.drew.setCell h1 (Za 0)).setCell (h1,1) (Za 0)).setCell (h1,2) (Za 0)).setCell (h1,3) (Za 0)).setCell (h1,4) (Za 0)).setCell (h1,5) (Za 0)).setCell (h1,6) (Za 0)).setCell (h1,7) (Za 0)=U9.drew):=iu (x:=zB) B1.cM;have⟨WD,h⟩:=ZX U9.drew;have BD:H_ (OT WD h1):=(by rw[h];exact B1.cM);have DD:H_ (OS U9 WD):=(by rw[h];exact(ce _ _).drew);have XD:=Y (i.later DD);have FD:H_ (Bd _ g base u WD):=DV.later DD i.bs;rw[<-h] at HI;have⟨r0,r1,r2,r3,r4,r5,r6,r7,rf⟩:=jt BD;refine aj rfl ?_;intro K9 al;go_wp2;refine Met.intro (aj rfl ?_);intro K8 ak;rcases hr with a0|a0
 ·have f0:decide (y<0)=true:=by simpa using a0
  go_upto_region 3 with fail;go_region;rw[<-h];go_wp2;rw[HI];exact UM (by simp[results,results42,go_sem,r0,r1,r2,r3,r4,r5,r6,r7]) rfl ⟨rfl,⟨g,c,_,XD⟩,FD⟩
 ·have a1:¬y<0:=by omega
  have f0:decide (y<0)=false:=by simpa using a1
  have f1:decide ((n:Int)<=y)=true:=by simpa using a0
  go_upto_region 3 with fail;go_region;rw[<-h];go_wp2;rw[HI];exact UM (by simp[results,results42,go_sem,r0,r1,r2,r3,r4,r5,r6,r7]) rfl ⟨rfl,⟨g,c,_,XD⟩,FD⟩
theorem L8{h1 h0:Nat}(i:H_ (ClX base U9 K n W M g c (q,k,j)))(ah:1<=n)(ag:n<=32)(B0:H_ (OV U9 h0 x y z d))(B1:H_ (OT U9 h1))(DV:H_ (Bd (Rds x) g base u U9))(NE:H_ (h0≠g/\h0≠K/\h1≠g/\h1≠K/\h0≠h1/\base<=h1/\(∀ab,Value.ownBlock (q,k,j)=some ab->ab≠h0/\ab≠h1)/\base<=u/\u<=h1))(hk:x=1)(hr:H_ (y<0\/(n:Int)<=y)):
 aA Tryz.f42 (λad w'=>ad=Zr #[Zb 1,()]/\H_ (ClW base w' K n W M)/\H_ (Bd (Rds x) g base u w')) 1 ⟨#[(K,0),X,U,(h0,0),Zi,(h1,0),T,S,Q,O,N,L,J,I,H,G,F,E,D,C,B,A,t,s,r,p,o,f,e,b,aN,br,bL,cE,cM,dC,ed,em,et,g9,eW,fl,gT,iK,jh,jJ,kN,kO,lW,mk,mO,gr,og,oI,pL,ql,qB,rl,rt,sd,so,sB,tH,tJ,tK,tL,tM,ve,vJ,vN,vZ,wp,xE,zi,zy,zA,Ab,Ar,Er,Gj,Gq,JE,JF,JL,JU,Kv,KC,LH,LJ,LQ,Ma,Mb,Mn,Mo,ME,MK,Nc,Np,Ns,NK,NM,NT,NV,Oa,Ov,PP,Us,UZ],[]⟩ U9:=by
 have z0:=B0.cell 0;simp only[OB,Oz] at z0;have af:1<=n/\n<=32:=⟨ah,ag⟩;clear af;subst hk;have z1:=B0.cell 1;simp only[OB,OA,Oz] at z1;have⟨x0,x1⟩:=Bx.two i.bx;have ai:=NE.1;clear ai;have HI:H_ ((((((((U9.drew.setCell h1 (Za 0)).setCell (h1,1) (Za 0)).setCell (h1,2) (Za 0)).setCell (h1,3) (Za 0)).setCell (h1,4) (Za 0)).setCell (h1,5) (Za 0)).setCell (h1,6) (Za 0)).setCell (h1,7) (Za 0)=U9.drew):=iu (x:=zB) B1.cM;have⟨WD,h⟩:=ZX U9.drew;have BD:H_ (OT WD h1):=(by rw[h];exact B1.cM);have DD:H_ (OS U9 WD):=(by rw[h];exact(ce _ _).drew);have XD:=Y (i.later DD);have FD:H_ (Bd _ g base u WD):=DV.later DD i.bs;rw[<-h] at HI;have⟨r0,r1,r2,r3,r4,r5,r6,r7,rf⟩:=jt BD;refine aj rfl ?_;intro K9 al;go_wp2;refine Met.intro (aj rfl ?_);intro K8 ak;rcases hr with a0|a0
 ·have f0:decide (y<0)=true:=by simpa using a0
  go_upto_region 3 with fail;go_region;rw[<-h];go_wp2;rw[HI];exact UM (by simp[results,results42,go_sem,r0,r1,r2,r3,r4,r5,r6,r7]) rfl ⟨rfl,⟨g,c,_,XD⟩,FD⟩
 ·have a1:¬y<0:=by omega
  have f0:decide (y<0)=false:=by simpa using a1
  have f1:decide ((n:Int)<=y)=true:=by simpa using a0
  go_upto_region 3 with fail;go_region;rw[<-h];go_wp2;rw[HI];exact UM (by simp[results,results42,go_sem,r0,r1,r2,r3,r4,r5,r6,r7]) rfl ⟨rfl,⟨g,c,_,XD⟩,FD⟩
theorem L9{h1 h0:Nat}(i:H_ (ClX base U9 K n W M g c (q,k,j)))(ah:1<=n)(ag:n<=32)(B0:H_ (OV U9 h0 x y z d))(B1:H_ (OT U9 h1))(DV:H_ (Bd (Rds x) g base u U9))(NE:H_ (h0≠g/\h0≠K/\h1≠g/\h1≠K/\h0≠h1/\base<=h1/\(∀ab,Value.ownBlock (q,k,j)=some ab->ab≠h0/\ab≠h1)/\base<=u/\u<=h1))(hk:x=2)(hr:H_ (y<0\/(n:Int)<=y)):
 aA Tryz.f42 (λad w'=>ad=Zr #[Zb 1,()]/\H_ (ClW base w' K n W M)/\H_ (Bd (Rds x) g base u w')) 1 ⟨#[(K,0),X,U,(h0,0),Zi,(h1,0),T,S,Q,O,N,L,J,I,H,G,F,E,D,C,B,A,t,s,r,p,o,f,e,b,aN,br,bL,cE,cM,dC,ed,em,et,g9,eW,fl,gT,iK,jh,jJ,kN,kO,lW,mk,mO,gr,og,oI,pL,ql,qB,rl,rt,sd,so,sB,tH,tJ,tK,tL,tM,ve,vJ,vN,vZ,wp,xE,zi,zy,zA,Ab,Ar,Er,Gj,Gq,JE,JF,JL,JU,Kv,KC,LH,LJ,LQ,Ma,Mb,Mn,Mo,ME,MK,Nc,Np,Ns,NK,NM,NT,NV,Oa,Ov,PP,Us,UZ],[]⟩ U9:=by
 have z0:=B0.cell 0;simp only[OB,Oz] at z0;have af:1<=n/\n<=32:=⟨ah,ag⟩;clear af;subst hk;have z1:=B0.cell 1;simp only[OB,OA,Oz] at z1;have⟨x0,x1⟩:=Bx.two i.bx;have ai:=NE.1;clear ai;have HI:H_ ((((((((U9.drew.setCell h1 (Za 0)).setCell (h1,1) (Za 0)).setCell (h1,2) (Za 0)).setCell (h1,3) (Za 0)).setCell (h1,4) (Za 0)).setCell (h1,5) (Za 0)).setCell (h1,6) (Za 0)).setCell (h1,7) (Za 0)=U9.drew):=iu (x:=zB) B1.cM;have⟨WD,h⟩:=ZX U9.drew;have BD:H_ (OT WD h1):=(by rw[h];exact B1.cM);have DD:H_ (OS U9 WD):=(by rw[h];exact(ce _ _).drew);have XD:=Y (i.later DD);have FD:H_ (Bd _ g base u WD):=DV.later DD i.bs;rw[<-h] at HI;have⟨r0,r1,r2,r3,r4,r5,r6,r7,rf⟩:=jt BD;refine aj rfl ?_;intro K9 al;go_wp2;refine Met.intro (aj rfl ?_);intro K8 ak;rcases hr with a0|a0
 ·have f0:decide (y<0)=true:=by simpa using a0
  go_upto_region 3 with fail;go_region;rw[<-h];go_wp2;rw[HI];exact UM (by simp[results,results42,go_sem,r0,r1,r2,r3,r4,r5,r6,r7]) rfl ⟨rfl,⟨g,c,_,XD⟩,FD⟩
 ·have a1:¬y<0:=by omega
  have f0:decide (y<0)=false:=by simpa using a1
  have f1:decide ((n:Int)<=y)=true:=by simpa using a0
  go_upto_region 3 with fail;go_region;rw[<-h];go_wp2;rw[HI];exact UM (by simp[results,results42,go_sem,r0,r1,r2,r3,r4,r5,r6,r7]) rfl ⟨rfl,⟨g,c,_,XD⟩,FD⟩
theorem vr{h1 h0:Nat}(HX:H_ (ClX base V K n W M g c (q,k,j)))(aw:1<=n)(ar:n<=32)(B0:H_ (OV V h0 x y z d))(B1:H_ (OT V h1))(DV:H_ (Bd (Rds x) g base u V))(NE:H_ (h0≠g/\h0≠K/\h1≠g/\h1≠K/\h0≠h1/\base<=h1/\(∀af,Value.ownBlock (q,k,j)=some af->af≠h0/\af≠h1)/\base<=u/\u<=h1))(hk:x=3)(ap:W.length<=1000):
 aA Tryz.f42 (λh w'=>h=Zr #[Zi,()]/\H_ (ClW base w' K n (W++[M]) M)/\H_ (Bd (Rds x) g base u w')) 3 ⟨#[(K,0),X,U,(h0,0),Zi,(h1,0),T,S,Q,O,N,L,J,I,H,G,F,E,D,C,B,A,t,s,r,p,o,f,e,b,aN,br,bL,cE,cM,dC,ed,em,et,g9,eW,fl,gT,iK,jh,jJ,kN,kO,lW,mk,mO,gr,og,oI,pL,ql,qB,rl,rt,sd,so,sB,tH,tJ,tK,tL,tM,ve,vJ,vN,vZ,wp,xE,zi,zy,zA,Ab,Ar,Er,Gj,Gq,JE,JF,JL,JU,Kv,KC,LH,LJ,LQ,Ma,Mb,Mn,Mo,ME,MK,Nc,Np,Ns,NK,NM,NT,NV,Oa,Ov,PP,Us,UZ],[]⟩ V:=by
 have z0:=B0.cell 0;simp only[OB,Oz] at z0;have aq:1<=n/\n<=32:=⟨aw,ar⟩;clear aq;subst hk;have ag:=NE.o;have NG:=Y HX.ng;have⟨x0,x1⟩:=Bx.two HX.bx;have xf:=Bx.frozen HX.bx;have ax:=Y (ay.bl_ HX.nw);have al:K<V:=Bx.lt HX.bx;have ao:=Y ap;have an:H_ (∀af,Value.ownBlock (q,k,j)=some af->¬af=K):=λaf hk h=>(NG.2.2.2.1 af hk).1 h
 refine aj rfl ?_;intro K9 aD;go_upto_region 13 with fail;go_region_law (first|(rw[<-ai];refine lj (w:=w6) rfl (Vb:=.tmp 83) (y:=.tmp 89) rfl (v:=(q,k,j)) (n:=n) (ae:=W) (Z:=λab=>ab=K\/ab=g) rfl S6.sn (ad:=a5) (c:=c5) (l:=M) rfl S6.bx S6.bl Q5.nc S6.lo ao S6.hb ?_;intro ya yn yc w7 g1 g2 g3;have X7:=Y (Bx.grow S6.kx g2 (λh=>an K h.symm rfl));have⟨y0,y1⟩:=X7.two;have yf:=X7.frozen)|(go_simp;go_at_call 68;refine(EI c ax.1 (by omega) (by omega)).mono ?_;rintro h w5 ⟨a5,c5,rfl,Q5⟩;have⟨w6,ai⟩:=ZX (w5.alloc (.cells #[(a5,n,c5)] 76));have S6:=Y (Od HX Q5);rw[<-ai] at S6;have⟨m0,m1⟩:=(Bx.later HX.bx Q5.d al).two;have aC:K<w5:=OE al Q5.d.size));all_goals
  have⟨w8,ah⟩:=ZX (w7.setCell (K,1) (ya,yn,yc));have X8:H_ (Bx w8 K #[(g,n,c),(ya,yn,yc)] 79):=(by rw[ah];exact X7.set 1 _);have E8:H_ (Ex (λab=>ab=K) w7 w8):=(by rw[ah];exact Ex.one (ak (au _) _ _));have aB:w6<=w7.heap.size:=g2.size;have az:V<=w6.heap.size:=S6.d.size;have E7:=Y (show Ex (λab=>ab=K\/Value.ownBlock (q,k,j)=ab) V w8 from(Ex.below S6.d).trans (((show Ex (λab=>Value.ownBlock (q,k,j)=ab) w6 w7 from⟨⟨g2.size,λab i hn=>g2.block ab i (λh=>hn h.symm)⟩,g2.os,g2.tape,g2.output⟩).mono λab _ i=>.inr i).trans (E8.mono λab _ i=>.inl i)));have am:base<=K:=HX.kb;have av:∀af,Value.ownBlock (ya,yn,yc)=some af->¬af=K:=λaf hk h=>by
   rcases g3 with h9|h9
   ·rw[hk] at h9;exact an af h9.symm h
   ·rw[hk] at h9;have h8:=OG h9;omega
  have C8:=Y (show ClX base w8 K n (W++[M]) M g c (ya,yn,yc) from⟨X8,am,World.ownsRow.kept (World.ownsRow.kept (aW HX.nw S6.d) g2 (.inr (λh=>by
   have h9:Value.ownBlock (q,k,j)=g:=h.symm;exact(NG.2.2.2.1 g h9).2 rfl))) ⟨E8.os,E8.tape,E8.output,E8.size,λab i hn=>E8.block ab i (λh=>hn (by rw[h]))⟩ (.inr (λh=>NG.1 (OG h))),g1.ex E8 (λab i _=>.inl i) (λaf hk h=>av af hk h),HX.nl,by have:=HX.bs;have:=E8.size;omega⟩)
  have B8:=Y (show OT w8 h1 from Ex.bx E7 B1 (λh=>by
   rcases h with h|h
   ·exact ag.2.2.2.1 h
   ·exact(ag.2.2.2.2.2.2.1 h1 h).2 rfl))
  have F8:=Y (show Bd _ g base u w8 from DV.ex E7 HX.bs (λab i=>by
   rcases i with i|i
   ·rw[i];exact am
   ·exact(HX.sn.lt ab i).1) (λab i=>.inr (by
   rcases i with i|i
   ·rw[i];exact⟨Bx.nd HX.bx (by decide),.inr (Bx.nd HX.bx (by decide))⟩
   ·have⟨vs,h8,_⟩:=HX.sn
    exact⟨rR h8 (by decide) i,.inr (rR h8 (by decide) i)⟩)) (λh=>absurd h (by unfold Rds;decide)))
  rw[<-ah];clear x0 x1 xf y0 y1 yf m0 m1 ag;go_wp2_with fail;exact Met.intro (lN B8 (Y ⟨rfl,Y ⟨g,c,_,C8.o⟩,F8⟩))
end
section
open Go.RowKit
theorem Aj{vc:Nat}(HX:H_ (ClX k U9 j i W M h U1 (q,Ve,vc)))(aD:1<=i)(aC:i<=32){h0 h1:Nat}(B0:H_ (OV U9 h0 x y z d))(B1:H_ (OT U9 h1))(DV:H_ (Bd (Rds x) h k u U9))(NE:H_ (h0≠h/\h0≠j/\h1≠h/\h1≠j/\h0≠h1/\k<=h1/\(∀af,Value.ownBlock (q,Ve,vc)=some af->af≠h0/\af≠h1)/\k<=u/\u<=h1)){hv:Nat}{l:List B8}(hk:x=8)(ai:W.length=hv+1)(aB:hv<=1000000)(HL:H_ (W[hv]?=l)):
 aA Tryz.f42 (λab w'=>ab=Zr #[Zi,()]/\H_ (ClW k w' j i W l)/\H_ (Bd (Rds x) h k u w')) 3 ⟨#[(j,0),X,U,(h0,0),Zi,(h1,0),T,S,Q,O,N,L,J,I,H,G,F,E,D,C,B,A,t,s,r,p,o,f,e,b,aN,br,bL,cE,cM,dC,ed,em,et,g9,eW,fl,gT,iK,jh,jJ,kN,kO,lW,mk,mO,gr,og,oI,pL,ql,qB,rl,rt,sd,so,sB,tH,tJ,tK,tL,tM,ve,vJ,vN,vZ,wp,xE,zi,zy,zA,Ab,Ar,Er,Gj,Gq,JE,JF,JL,JU,Kv,KC,LH,LJ,LQ,Ma,Mb,Mn,Mo,ME,MK,Nc,Np,Ns,NK,NM,NT,NV,Oa,Ov,PP,Us,UZ],[]⟩ U9:=by
 have z0:=B0.cell 0;simp only[OB,Oz] at z0;have az:1<=i/\i<=32:=⟨aD,aC⟩;clear az;subst hk;have ap:=NE.o;have NG:=Y HX.ng;have⟨ga,aJ,la,lc,ag,aK,ax,hbl,av⟩:=HX.sn.at_ HL;have aw:q=some ⟨ga,0,none⟩:=by injection ag
 have am:Ve=W.length:=by injection ag
 clear ag;subst aw;have⟨x0,x1⟩:=Bx.two HX.bx;have xf:=Bx.frozen HX.bx;have ay:j<U9:=Bx.lt HX.bx;have aq:=Y hbl;have ar:=Y ai;have aG:(hv:Int)<(Ve:Int):=by rw[am,ai];omega
 have aF:H_ (ClW k U9.drew j i W M):=ClW.later ⟨h,U1,_,HX⟩ (ce _ _).drew;have aL:¬j=ga:=λab=>(NG.2.2.2.1 ga rfl).1 ab.symm
 clear hbl av ai am;refine aj rfl ?_;intro K9 aM;go_upto_region 15 with fail;go_region_with (first|(go_at_call 37;(with_reducible refine(jN aF.o ar.o aB).mono ?_);rintro ab w4 ⟨rfl,ao⟩;rw[ao];clear ao)|(go_at_call 68;(with_reducible refine(EI lc aq.o (by omega) (by omega)).mono ?_);rintro ab w5 ⟨a5,c5,rfl,Q5⟩;have X5:=Y (Bx.later HX.bx Q5.d ay);have⟨m0,m1⟩:=X5.two;have mf:=X5.frozen));all_goals
  have⟨g5,aE,aH,aI,_,_⟩:=Q5.ow.form (by omega);subst aE;have⟨w8,al⟩:=ZX (w5.setCell j (g5,i,c5));have X8:H_ (Bx w8 j #[(g5,i,c5),(ga,Ve,vc)] 79):=(by rw[al];exact X5.set 0 _);have E8:H_ (Ex (λad=>ad=j) w5 w8):=(by rw[al];exact Ex.one (ak (au _) _ _));have an:k<=j:=HX.kb;have ah:=HX.bs;have E7:=Y (show Ex (λad=>ad=j) U9 w8 from(Ex.below Q5.d).trans E8);have C8:=Y (show ClX k w8 j i W l g5 c5 (ga,Ve,vc) from⟨X8,an,World.ownsRow.mono (World.ownsRow.kept Q5.ow ⟨E8.os,E8.tape,E8.output,E8.size,λad hb hn=>E8.block ad hb (λab=>hn (by rw[ab]))⟩ (.inr (λab=>by have h9:=OG ab;simp at h9;omega))) ah,((HX.sn.wd (Z':=λad=>ad=j\/ad=g5) (λad hb he=>by
   rcases he with he|he
   ·exact .inl he
   ·omega)).later Q5.d).ex E8 (λad hb _=>.inl hb) (λaf hk ab=>(NG.2.2.2.1 af hk).1 ab),aq.1,OP ah E7.size⟩)
  have B8:H_ (OT w8 h1):=Ex.bx E7 B1 ap.2.2.2.1;have F8:H_ (Bd _ h k u w8):=(DV.ex E7 ah (λad hb=>by rw[hb];exact an) (λad hb=>.inr (by rw[hb];exact⟨Bx.nd HX.bx (by decide),.inr (Bx.nd HX.bx (by decide))⟩)) (λab=>absurd ab (by unfold Rds;decide)));rw[<-al];clear x0 x1 xf m0 m1 mf ap ax;go_wp2_with fail;exact Met.intro (lN B8 (Y ⟨rfl,Y ⟨g5,c5,_,C8.o⟩,F8⟩))
end
section
open Go.RowKit
theorem fZ(K:Nat)(w:W_)(f d b:Int)(e:B8)(ad:∀(W:W_) {v1 v2 v6 v7 v8 v9 Rn k Rr Rq RW q C O G Se Sf Sh j Ru Rv Rs Rx Ry Rz I RB RC RE RF RG x RJ RM Si s Sk S Sm Sn So Q Sq Sr Ss St N Sv H Sx y Sz SA SB SC SD SE X SG E SJ SK z SM SN r SP A SR L SU SV p SX S4 t S9 U Tb Tc T J Tf u Th Ti Tj Tk Tl D B To Tp Tq Tr M RN o RP RQ RR RS RT RU:V_},H_ (OV W w f d b e)->H_ (OT W (w+1))->H_ (OS w W)->aA Tryz.f42 U8 1 ⟨#[(K,0),v1,v2,(w,0),Zi,(w.heap.size+1,0),v6,v7,v8,v9,Rn,k,Rr,Rq,RW,q,C,O,G,Se,Sf,Sh,j,Ru,Rv,Rs,Rx,Ry,Rz,I,RB,RC,RE,RF,RG,x,RJ,RM,Si,s,Sk,S,Sm,Sn,So,Q,Sq,Sr,Ss,St,N,Sv,H,Sx,y,Sz,SA,SB,SC,SD,SE,X,SG,E,SJ,SK,z,SM,SN,r,SP,A,SR,L,SU,SV,p,SX,S4,t,S9,U,Tb,Tc,T,J,Tf,u,Th,Ti,Tj,Tk,Tl,D,B,To,Tp,Tq,Tr,M,RN,o,RP,RQ,RR,RS,RT,RU],[]⟩ W):
 C_ prog 42 #[(K,0),.agg (Zp f d b e)] w U8:=by
 have ab:=Y @ad;have⟨W,h⟩:=ZX ((w.alloc (.cells (Zp f d b e) 67)).alloc (.cells () 65));have D0:H_ (OS w W):=(by rw[h];exact(af).alloc (by simp) _);have B0:H_ (OV W w f d b e):=(by rw[h];exact(Bx.new w _ _).alloc _);have F:=Y (show OT W (w+1) by
  rw[h];have i:=Bx.new (w.alloc (.cells (Zp f d b e) 67)) () 65;rw[dl] at i;exact i)
 go_enter func42,ntmps42;change aA Tryz.f42 U8 0 _ w;refine aj rfl ?_;intro K9 ae;go_wp2_with fail;rw[<-h];exact Met.intro (ab W B0 F D0)
theorem J8(H:ClX k u j i W M h U1 X)(h1:1<=i)(h2:i<=32)(hl:W.length=Ve+1)(ar:Ve<=900){E:B8}(G:E=doD i M ⟨x,y,z,d⟩):
 C_ prog 42 #[(j,0),.agg (Zp x y z d)] u λah w'=>ah=Zr #[Zb (doE i ⟨x,y,z,d⟩),E]/\H_ (ClW k w' j i (doS W M ⟨x,y,z,d⟩) (doN i W M ⟨x,y,z,d⟩))/\H_ (Bd (Rds x) h k u w'):=by
 have⟨va,vc,aj,aq⟩:=H.sn.len;obtain⟨vl,an⟩:∃vl:Nat,vl=W.length:=⟨_,rfl⟩;rw[<-an] at aj;subst aj;have⟨av,ax,aw,ap,_⟩:=H.ng;have S:=H.bs;have au:=Bx.lt H.bx;have F:∀{f:W_},OS u f->ClX k f j i W M h U1 (va,vl,vc):=λI=>H.later I
 have DW:∀{f:W_},OS u f->OS u f.drew:=λI=>I.trans ((ce _ _).drew.mono I.size)
 have O:∀{f:W_},OS u f->ClX k f.drew j i W M h U1 (va,vl,vc):=λI=>H.later (DW I)
 have Q:∀{f:W_},OS u f->Bd (Rds x) h k u f.drew:=λI=>Bd.of (DW I) S
 have B:H_ (u≠h/\u≠j/\u+1≠h/\u+1≠j/\u≠u.heap.size+1/\k<=u+1/\(∀ad,Value.ownBlock (va,vl,vc)=some ad->ad≠u.heap.size/\ad≠u.heap.size+1)/\k<=u/\u<=u.heap.size+1):=Y ⟨by omega,by omega,by omega,by omega,by omega,by omega,λad hk=>by have:=(H.sn.lt ad hk).2;omega,S,by omega⟩;by_cases ao:x<0\/11<=x
 ·have A:doE i ⟨x,y,z,d⟩=3:=by unfold doE;simp only;rw[UX (by omega),UX (by omega)]
  have p:doS W M ⟨x,y,z,d⟩=W:=by unfold doS;simp only;rw[UX (by omega)]
  have q:doN i W M ⟨x,y,z,d⟩=M:=by unfold doN;simp only;rw[UX (by omega),UX (by omega),UX (by omega)]
  have C:E=zB:=by rw[G];unfold doD;simp only;rw[UX (by omega)]
  rw[A,p,q];subst C;exact fZ j u x y z d (by intro f;intros;rename_i e o b;exact J7 (F b) h1 h2 e o (Bd.of b S) (⟨B.1,B.2.1,B.2.2.1,B.2.2.2.1,B.2.2.2.2.1,B.2.2.2.2.2.1,B.2.2.2.2.2.2.1,o.lt⟩) (Y ao))
 have al:0<=x/\x<=10:=by omega
 have rest:¬x=0->¬x=1->¬x=2->C_ prog 42 #[(j,0),.agg (Zp x y z d)] u λah w'=>ah=Zr #[Zb (doE i ⟨x,y,z,d⟩),E]/\H_ (ClW k w' j i (doS W M ⟨x,y,z,d⟩) (doN i W M ⟨x,y,z,d⟩))/\H_ (Bd (Rds x) h k u w'):=by
  intro r t s;have hp:H_ (0<=x/\x<=10/\¬x=0/\¬x=1/\¬x=2):=Y ⟨al.1,al.2,r,t,s⟩;have A:doE i ⟨x,y,z,d⟩=0:=by unfold doE;simp only;rw[UX (by omega),UY (by omega)]
  have C:E=zB:=by rw[G];unfold doD;simp[s]
  subst C;clear G;by_cases U:x=3
  ·have p:doS W M ⟨x,y,z,d⟩=W++[M]:=by unfold doS;simp[U]
   have q:doN i W M ⟨x,y,z,d⟩=M:=by unfold doN;simp[U]
   rw[A,p,q];exact fZ j u x y z d (by intro f;intros;rename_i e o b;exact Al ((F b).bx) e hp (by refine Y ?_;intros;exact(vr (O b) h1 h2 (Y e.cM) (Y o.cM) (Q b) B U (by omega))))
  by_cases T:x=8
  ·obtain⟨l,ak⟩:∃l,W[Ve]?=some l:=⟨_,Ox (by omega)⟩;have p:doS W M ⟨x,y,z,d⟩=W:=by unfold doS;simp[T]
   have q:doN i W M ⟨x,y,z,d⟩=l:=by
    unfold doN;simp only[T];rw[UX (by decide),UX (by decide),UY trivial,hl,UH,Oy,ak];rfl
   rw[A,p,q];exact fZ j u x y z d (by intro f;intros;rename_i e o b;exact Al ((F b).bx) e hp (by refine Y ?_;intros;exact(Aj (O b) h1 h2 (Y e.cM) (Y o.cM) (Q b) B T hl (by omega) (Y ak))))
  have p:doS W M ⟨x,y,z,d⟩=W:=by unfold doS;simp[U]
  have q:doN i W M ⟨x,y,z,d⟩=M:=by unfold doN;simp[r,t,T]
  rw[A,p,q];exact fZ j u x y z d (by intro f;intros;rename_i e o b;exact Al ((F b).bx) e hp (by refine Y ?_;intros;exact(CO (O b) h1 h2 (Y e.cM) (Y o.cM) (Q b) B (⟨r,t,s,U,T⟩))))
 by_cases D:inP i y
 ·obtain⟨J,hj⟩:∃J:Nat,y=(J:Int):=⟨y.toNat,by unfold inP at D;omega⟩;have af:J<i:=by unfold inP at D;omega
  have L:cX i y=0:=by unfold cX;rw[UY D]
  have ab:∀N:B8,dh i M y N=M.set J N:=λN=>by
   unfold dh;rw[UY D,hj];rfl
  by_cases r:x=0
  ·have A:doE i ⟨x,y,z,d⟩=0:=by unfold doE;simp[r,L]
   have p:doS W M ⟨x,y,z,d⟩=W:=by unfold doS;simp[r]
   have q:doN i W M ⟨x,y,z,d⟩=M.set J d:=by unfold doN;simp[r,ab]
   have C:E=zB:=by rw[G];unfold doD;simp[r]
   rw[A,p,q];subst C;exact fZ j u x y z d (by intro f;intros;rename_i e o b;exact LW ((F b).bx) e r (Y D) (by refine Y ?_;intros;exact(Ak (O b) h1 h2 (Y e.cM) (Y o.cM) (Q b) B r hj (Y af))))
  by_cases t:x=1
  ·have A:doE i ⟨x,y,z,d⟩=0:=by unfold doE;simp[t,L]
   have p:doS W M ⟨x,y,z,d⟩=W:=by unfold doS;simp[t]
   have q:doN i W M ⟨x,y,z,d⟩=M.set J zB:=by unfold doN;simp[t,ab]
   have C:E=zB:=by rw[G];unfold doD;simp[t]
   rw[A,p,q];subst C;exact fZ j u x y z d (by intro f;intros;rename_i e o b;exact LX ((F b).bx) e t (Y D) (by refine Y ?_;intros;exact(CQ (O b) h1 h2 (Y e.cM) (Y o.cM) (Q b) B t hj (Y af))))
  by_cases s:x=2
  ·have am:J<M.length:=by rw[H.nl];exact af
   have A:doE i ⟨x,y,z,d⟩=0:=by unfold doE;simp[s,L]
   have p:doS W M ⟨x,y,z,d⟩=W:=by unfold doS;simp[s]
   have q:doN i W M ⟨x,y,z,d⟩=M:=by unfold doN;simp[s]
   have C:M[J]?=E:=by
    rw[G];unfold doD gm;simp only[s,UY];rw[UY D,hj,m6,Oy,Ox am];rfl
   rw[A,p,q];clear G;exact fZ j u x y z d (by intro f;intros;rename_i e o b;exact LY ((F b).bx) e s (Y D) (by refine Y ?_;intros;exact(CP (O b) h1 h2 (Y e.cM) (Y o.cM) (Q b) B s hj (Y af) (Y C) ((H.sn.wd (Z':=λag=>(ag=j\/ag=h)\/ag=u+1) (λag I he=>by
    rcases he with he|he
    ·exact he
    ·omega)).later (DW b)))))
  exact rest r t s
 ·have ai:y<0\/(i:Int)<=y:=by unfold inP at D;omega
  have L:cX i y=1:=by unfold cX;rw[UX D]
  have ab:∀N:B8,dh i M y N=M:=λN=>by unfold dh;rw[UX D]
  by_cases r:x=0
  ·have A:doE i ⟨x,y,z,d⟩=1:=by unfold doE;simp[r,L]
   have p:doS W M ⟨x,y,z,d⟩=W:=by unfold doS;simp[r]
   have q:doN i W M ⟨x,y,z,d⟩=M:=by unfold doN;simp[r,ab]
   have C:E=zB:=by rw[G];unfold doD;simp[r]
   rw[A,p,q];subst C;exact fZ j u x y z d (by intro f;intros;rename_i e o b;exact LZ (F b) h1 h2 e o (Bd.of b S) B r (Y ai))
  by_cases t:x=1
  ·have A:doE i ⟨x,y,z,d⟩=1:=by unfold doE;simp[t,L]
   have p:doS W M ⟨x,y,z,d⟩=W:=by unfold doS;simp[t]
   have q:doN i W M ⟨x,y,z,d⟩=M:=by unfold doN;simp[t,ab]
   have C:E=zB:=by rw[G];unfold doD;simp[t]
   rw[A,p,q];subst C;exact fZ j u x y z d (by intro f;intros;rename_i e o b;exact L8 (F b) h1 h2 e o (Bd.of b S) B t (Y ai))
  by_cases s:x=2
  ·have A:doE i ⟨x,y,z,d⟩=1:=by unfold doE;simp[s,L]
   have p:doS W M ⟨x,y,z,d⟩=W:=by unfold doS;simp[s]
   have q:doN i W M ⟨x,y,z,d⟩=M:=by unfold doN;simp[s]
   have C:E=zB:=by rw[G];unfold doD gm;simp only[s,UY];rw[UX D]
   rw[A,p,q];subst C;exact fZ j u x y z d (by intro f;intros;rename_i e o b;exact L9 (F b) h1 h2 e o (Bd.of b S) B s (Y ai))
  exact rest r t s
