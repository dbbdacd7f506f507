/- Texts of ours, joined. -/
import Derived.Test.YtpckmjfabiallaaGreatDoorG18
set_option linter.unusedVariables false
set_option linter.unusedSimpArgs false
set_option maxRecDepth 100000
set_option maxHeartbeats 16000000
namespace Go.Proofs.YtpckmjfabiallaaGreatDoor
variable{b j m mb n0 p sz:Nat}{fs s1 ss v v0:Value}{w w' w1 w2:World}{x:List UInt8}
open List
open Tryz
section
open Go.RowKit
open Ck (CE CS CF CP Mng)
attribute [local go_sem ↓] Go.wp_at_zero Go.wp_at_succ
theorem CkS.fm{k:Ck.Kx}{env:Ck.Env}{ls:List (List UInt8)}{lv:Value}{X:AS}(h:CkS n0 b mb v0 ss fs k env ls lv w)(f:Fm X w w')(hX:∀j,X j->n0<=j/\lv.ownBlock≠some j):CkS n0 b mb v0 ss fs k env ls lv w':=
 ⟨(f.block b (by have:=h.hb;have:=h.sz;omega) (λ e=>by have:=(hX _ e).1;have:=h.hb;omega)).trans h.blk,h.hds.since (f.since (λ j hj e=>by have:=(hX _ e).1;have:=hj.1;omega)),h.env.since (f.block mb h.env.lt (λ e=>by have:=(hX _ e).1;have:=h.hm;omega)),h.loc.since (λ j hj=>f.block j (h.loc.lt hj).2 (λ e=>(hX j e).2 hj)),h.hb,h.hm,h.bm,AP h.sz f.size⟩
theorem Fm.set9(w:World)(g:Nat)(x0 x1 x2 x3 x4 x5 x6 x7 x8:Value):Fm (λ j=>j=g) w (A6 w g x0 x1 x2 x3 x4 x5 x6 x7 x8):=by
 have h:=B1 (AF 0 w) (AO g) x0 x1 x2 x3 x4 x5 x6 x7 x8;exact⟨h.os,h.tape,h.output,h.size,λ j _ h=>Ar h _ _ _ _ _ _ _ _ _ ⟩
def B0(n0 b mb cb nb:Nat)(v0 ss fs:Value)(k:Ck.Kx)(env:Ck.Env)(lv nv:Value)(names:List (List UInt8))(w:World)(r:Ck.R Ck.St1)(e:Ending)(w':World):Prop:=
 match r with
 | .inl (x,env',ls')=>∃lv' nv' more cs,e=.returned (.agg cs.toArray)/\C0 (λ j=>w.heap.size<=j/\lv'.ownBlock≠some j/\nv'.ownBlock≠some j) w' x cs/\env'=env ++ more/\CkS n0 b mb v0 ss fs k env' ls' lv' w'/\Sc n0 b cb nb nv' (names ++ more.map Prod.fst) w'/\Apart lv' nv' cb nb/\Fm (Jd b mb nb lv nv) w w'/\(∀j,lv'.ownBlock=some j->lv.ownBlock=some j\/w.heap.size<=j)/\(∀j,nv'.ownBlock=some j->nv.ownBlock=some j\/w.heap.size<=j)
 | .inr (a,er)=>e=.panicked (Ag a er)/\Fm (Jd b mb nb lv nv) w w'
theorem Lc{env:Ck.Env}{ls:List (List UInt8)}{kind:Nat}{ty:AQ}{r:Ck.Env × List (List UInt8)}(h:Ck.loc env ls x p kind ty=.inl r):r.1=env ++ [(x,⟨kind,ls.length,ty⟩)]:=by
 obtain⟨e,h1,h⟩:=An h;obtain⟨_,-,h⟩:=An h;obtain⟨_,-,h1⟩:=An h1;cases h1;cases h;rfl
theorem As0{x:Px.Ex}(hE:EOk x){n:AQ}{cb nb:Nat}{lv nv:Value}{k:Ck.Kx}{env:Ck.Env}{ls names:List (List UInt8)}(h:CkS n0 b mb v0 ss fs k env ls lv w)(ho:KOk k env)(hs:Sc n0 b cb nb nv names w)(be:Apart lv nv cb nb)(hl:ls.length<=32)(c8:names.length<=100000){B:AS}{row:AR}(hr:SlRow B w 8 s1 1 row)(ha:Ai B w [x] row)(b2 b3:Option Addr)(m2 m3 d2 d3:Nat) :
  AA 140 #[pt b 0,.agg (stA 1 n s1 (.slice b2 m2 d2) (.slice b3 m3 d3) p),.func (.func 112) #[] #[pt cb 0,pt nb 0]] w λ e w'=>B0 n0 b mb cb nb v0 ss fs k env lv nv names w (Ck.bind (Ck.cE (k.at env) x) λ x=>Ck.bind (Ck.loc env ls n p 3 x.type) λ e=>.inl (CS.mk 1 ls.length false 0 [x] [] [],e.1,e.2)) e w':=by
 obtain⟨kk,Hk⟩:∃kk:Nat,Hid (1=kk):=⟨_,rfl⟩;have bh:Hid ((Ck.bind (Ck.cE (k.at env) x) λ x=>Ck.bind (Ck.loc env ls n p 3 x.type) λ e=>.inl (CS.mk 1 ls.length false 0 [x] [] [],e.1,e.2))=(Ck.bind (Ck.cE (k.at env) x) λ x=>Ck.bind (Ck.loc env ls n p 3 x.type) λ e=>.inl (CS.mk kk ls.length false 0 [x] [] [],e.1,e.2):Ck.R Ck.St1)):=by rw[<-Hk.out];rfl
 rw[bh.out];have af:Hid (stA 1 n s1 (.slice b2 m2 d2) (.slice b3 m3 d3) p=stA kk n s1 (.slice b2 m2 d2) (.slice b3 m3 d3) p):=by rw[<-Hk.out];rfl
 rw[af.out];clear bh af Hk;obtain⟨w0,w1,c3,c0,l0,l1,cf,a8,cm,bj,c6⟩:=D9 w kk n s1 (.slice b2 m2 d2) (.slice b3 m3 d3) p;have bc:=hr.since (Since.of_below a8);have b9:=ha.since (Since.of_below a8);have h1:=h.keep a8;obtain⟨g,og,cap,ka,oa,na,ta,aa,pa,bx,az,rfl,bo,hg,rfl,⟨u0,u1,u2,u3,u4,u5,u6,u7⟩,av,bf⟩:=Bj (args:=[x]) bc b9 rfl;have hC:=hE ka oa na ta aa pa rfl w1 b mb (k.at env) B bx az h1.at ho.cx av bf;obtain⟨ce,bn,rfl,-,-⟩:=av.val;obtain⟨d0,d1,c1,bu,d4,d5,d6,d7,d8,-⟩:=Aj bj;have c9:cb<w.heap.size:=(AB hs.cbk).1;have b6:nb<w.heap.size:=(AB hs.nbk).1;have ci:b<w.heap.size:=by have:=h.hb;have:=h.sz;omega
 have cd:mb<w.heap.size:=by have:=h.hm;have:=h.sz;omega
 have hT:∀j,w.heap.size<=j->¬Jd b mb nb lv nv j:=λ j hj=>by
  rintro (e | e | e | e | e)
  .omega
  .omega
  .omega
  .have:=(h.loc.lt e).2;omega
  .have:=(hs.own.lt e).2;omega
 obtain⟨R,HR⟩:∃R:Ck.R Ck.St1,Hid ((Ck.bind (Ck.cE (k.at env) (.mk ka oa na ta aa pa)) λ x=>Ck.bind (Ck.loc env ls n p 3 x.type) λ e=>.inl (CS.mk kk ls.length false 0 [x] [] [],e.1,e.2))=R):=⟨_,rfl⟩;rw[HR.out];generalize Ck.cE (k.at env) (.mk ka oa na ta aa pa)=C at *;have i0:(0:Int)<1:=by omega
 have cj:([Px.Ex.mk ka oa na ta aa pa]:List Px.Ex).length=1:=rfl;clear hr ha hE bc b9 h1 av bf;simp only[length_cons,length_nil,Nat.zero_add] at *;go_enter func140,ntmps140;go_wp2_with fail;refine hC.mono ?_;rintro e w2 hP;clear hC c3 c0;rcases C with⟨k2,o2,n2,t2,s2,y2,a3⟩ | ⟨a,er⟩
 rotate_left
 .obtain⟨hm,aq⟩:=hP;obtain rfl:=hm;have a0:B0 n0 b mb cb nb v0 ss fs k env lv nv names w R (.panicked (Ag a er)) w2:=by rw[<-HR.out];exact⟨rfl,BE (a8.trans (aq.mono (by omega)))⟩
  exact⟨rfl,a0⟩
 obtain⟨sl2,row2,rfl,ar,bl,aq⟩:=hP.inl;obtain⟨a2,c2,rfl,-,-⟩:=ar.val;have bs:=aq.size;obtain⟨wz,w3,bw,c4,b4,aj,bq,cc,a4,ae⟩:=Cc w2 (iv k2) (iv o2) (iv n2) (strV t2) (iv s2) (strV y2) (.slice a2 a3.length c2) (iv 0);have lz:w2.heap.size<wz.heap.size:=by omega
 have l3:w2.heap.size<w3.heap.size:=by omega
 clear aj bq hP;obtain⟨z0,z1,z2,z3,z4,z5,z6,z7,f0,f1,f2,f3,f4,f5,f6,f7⟩:=Ac ae;obtain⟨q0,q1,q2,q3,q4,q5,q6,q7,-⟩:=Ac a4;have a5:Below w1.heap.size w1 w3:=aq.trans (b4.mono bs);have am:Below w.heap.size w w3:=a8.trans (a5.mono (by omega));have br:=((bcell a5).1 w.heap.size 1 (by omega)).trans d1;have bt:=((bcell a5).1 w.heap.size 8 (by omega)).trans d8;have aj:Sc n0 b cb nb nv names w3:=hs.keep (λ j hj=>am.block j (by rcases hj with rfl | rfl | h;exact c9;exact b6;exact (hs.own.lt h).2));have hL:=J6 (h.keep am) ho.eok aj be hl c8 n p 3 0 y2;have ay:Hid (R=Ck.bind (Ck.loc env ls n p 3 y2) λ e=>.inl (CS.mk kk ls.length false 0 [.mk k2 o2 n2 t2 s2 y2 a3] [] [],e.1,e.2)):=HR.out.symm;have bd:∀r,Ck.loc env ls n p 3 y2=.inl r->r.1=env ++ [(n,⟨3,ls.length,y2⟩)]:=λ r=>Lc
 generalize Ck.loc env ls n p 3 y2=D at *;have c5:=b4.size;clear HR d0 d1 c1 bu d4 d5 d6 d7 d8 u0 u1 u2 u3 u4 u5 u6 u7;have ad:=h.loc;have ah:=hs.own;have ch:=h.sz;clear h ho hs aj;go_wp2_with fail;refine hL.mono ?_;rintro e w4 hP;clear hL bw c4 z0 z1 z2 z3 z4 z5 z6 z7 f0 f1 f2 f3 f4 f5 f6 f7 q0 q1 q2 q3 q4 q5 q6 q7 br bt;rcases D with⟨env',ls'⟩ | ⟨a,er⟩
 rotate_left
 .obtain⟨hm,a6⟩:=hP;obtain rfl:=hm;have a0:B0 n0 b mb cb nb v0 ss fs k env lv nv names w R (.panicked (Ag a er)) w4:=by rw[ay.out];exact⟨rfl,(Fm.of_below (X:=λ _=>False) am).trans a6 (λ _ _ h=>h.elim) (λ _ _ h=>h)⟩
  exact⟨rfl,a0⟩
 obtain⟨lv',al,rfl,b7,b5,bi,a6,b8,au⟩:=hP;have cl:=a6.size;have bb:=(a6.block _ (by omega) (hT _ (AD _))).trans ((a5.block _ (by omega)).trans bj);have a7:=(a6.block _ l3 (hT _ (by omega))).trans a4;have bk:=(a6.block w0.heap.size (by omega) (hT _ (by omega))).trans ((a5.block _ (by omega)).trans c6);obtain⟨q0,q1,q2,q3,q4,q5,q6,q7,-⟩:=Ac a7;obtain⟨d0,-⟩:=Aj bb;have l4:w2.heap.size<w4.heap.size:=by omega
 have cg:w.heap.size<w4.heap.size:=by omega
 obtain⟨w8,bg⟩:∃w8,w4.alloc (.cells #[iv k2,iv o2,iv n2,strV t2,iv s2,strV y2,.slice a2 a3.length c2,iv 0] 48)=w8:=⟨_,rfl⟩;have ak:Below w4.heap.size w4 w8:=by rw[<-bg];exact (AF _ _).alloc (AD _) _
 have aw:=(ak.block w0.heap.size (by omega)).trans bk;obtain⟨r0,r1,r2,r3,r4,r5,r6,r7,r8,t0,t1,ca,t3,t4,t5,t6,t7,t8⟩:=Aj aw;have bv:w0.heap.size<w8.heap.size:=(AB aw).1;have a0:B0 n0 b mb cb nb v0 ss fs k env lv nv names w R (.returned (.agg #[iv kk,sE,iv ls.length,.bool false,iv 0,sL w4.heap.size 0 1 1,sZ,sZ,iv 0])) (A6 w8 w0.heap.size (iv kk) sE (iv ls.length) (.bool false) (iv 0) (sL w4.heap.size 0 1 1) sZ sZ (iv 0)):=by
  rw[ay.out];have ax:∀j,lv'.ownBlock=some j->n0<=j/\j<w4.heap.size:=λ j hj=>b7.loc.lt hj
  have ai:∀j,al.ownBlock=some j->n0<=j/\j<w4.heap.size:=λ j hj=>b5.own.lt hj
  have ag:∀j,lv'.ownBlock=some j->j<w.heap.size\/w3.heap.size<=j:=λ j hj=>by
   rcases b8 j hj with e | e
   .exact AI (ad.lt e).2
   .exact AJ e
  have ab:∀j,al.ownBlock=some j->j<w.heap.size\/w3.heap.size<=j:=λ j hj=>by
   rcases au j hj with e | e
   .exact AI (ah.lt e).2
   .exact AJ e
  have b0:Fm (λ j=>j=w0.heap.size) w4 (A6 w8 w0.heap.size (iv kk) sE (iv ls.length) (.bool false) (iv 0) (sL w4.heap.size 0 1 1) sZ sZ (iv 0)):=(Fm.of_below (X:=λ _=>False) ak).trans (Fm.set9 w8 w0.heap.size _ _ _ _ _ _ _ _ _ ) (λ _ _ h=>h.elim) (λ _ _ h=>h);have ba:Since (λ j=>w1.heap.size<=j/\j<w2.heap.size) w2 (A6 w8 w0.heap.size (iv kk) sE (iv ls.length) (.bool false) (iv 0) (sL w4.heap.size 0 1 1) sZ sZ (iv 0)):=⟨by rw[Bg];have:=ak.size;omega,λ j hj hl=>by
   rw[Ar (by omega)];exact (ak.block j (by omega)).trans ((a6.block j (by omega) (hT j (by omega))).trans (b4.block j hl))⟩
  have a9:SlRow (From w4.heap.size) w8 8 (sL w4.heap.size 0 1 1) 1 [iv k2,iv o2,iv n2,strV t2,iv s2,strV y2,.slice a2 a3.length c2,iv 0]:=by rw[<-bg];exact En (AD _)
  have c7:Since (From w4.heap.size) w8 (A6 w8 w0.heap.size (iv kk) sE (iv ls.length) (.bool false) (iv 0) (sL w4.heap.size 0 1 1) sZ sZ (iv 0)):=⟨by rw[Bg];exact AD _,λ j hj hl=>Ar (by have:w4.heap.size<=j:=hj;omega) _ _ _ _ _ _ _ _ _ ⟩;have bp:env'=env ++ [(n,⟨3,ls.length,y2⟩)]:=bd _ rfl;have w12:∀j,From w1.heap.size j->j<w2.heap.size->(w1.heap.size<=j/\j<w2.heap.size):=λ j h1 h2=>⟨h1,h2⟩
  have wB:∀{wx:World} j,(w1.heap.size<=j/\j<w2.heap.size)->j<wx.heap.size->(w.heap.size<=j/\lv'.ownBlock≠some j/\al.ownBlock≠some j):=λ {wx} j h1 _=>⟨by omega,λ e=>by rcases ag j e with h | h <;> omega,λ e=>by rcases ab j e with h | h <;> omega⟩
  refine⟨lv',al,[(n,⟨3,ls.length,y2⟩)],_,rfl,?_,bp,?_,?_,bi,?_,?_,?_⟩
  .exact Gr ((a9.since c7).base' (λ j hj _=>⟨by have:w4.heap.size<=j:=hj;omega,λ e=>by have:=(ax j e).2;have:w4.heap.size<=j:=hj;omega,λ e=>by have:=(ai j e).2;have:w4.heap.size<=j:=hj;omega⟩)) (Kz (De (((ar.base' w12).since ba).base' wB) (((bl.base w12).since ba).base wB))) BF Au.nil BF Au.nil
  .exact b7.fm b0 (λ j hj=>by subst hj;exact⟨by omega,λ e=>by rcases ag _ e with h | h <;> omega⟩)
  .refine b5.keep (λ j hj=>b0.block j ?_ ?_)
   .rcases hj with rfl | rfl | e
    .omega
    .omega
    .exact (ai j e).2
   .rintro rfl;rcases hj with e | e | e
    .omega
    .omega
    .rcases ab _ e with h | h <;> omega
  .exact ((Fm.of_below (X:=λ _=>False) am).trans a6 (λ _ _ h=>h.elim) (λ _ _ h=>h)).trans b0 (λ _ _ h=>h) (λ j hj e=>by omega)
  .intro j hj;rcases b8 j hj with e | e
   .exact AI e
   .exact AJ (by omega)
  .intro j hj;rcases au j hj with e | e
   .exact AI e
   .exact AJ (by omega)
 clear ay ar bl aw bk bb a7 a4 b7 b5 bi a6 b8 au bd ad ah hT be;go_wp2_with fail;exact bodyPost_ret (by simp[results,results140,go_sem,bv,r0,r1,r2,r3,r4,r5,r6,r7,r8]) rfl a0
end
section
open Go.RowKit
open Ck (CE CS CF CP Mng)
abbrev Eo(b mb:Nat)(lv:Value):Nat->Prop:=λ j=>j=b\/j=mb\/lv.ownBlock=some j
def Ij(n0 b mb:Nat)(v0 ss fs:Value)(k:Ck.Kx)(env:Ck.Env)(lv:Value)(w:World)(r:Ck.R (List CS × Ck.Env × List (List UInt8)))(e:Ending)(w':World):Prop:=
 match r with
 | .inl (xs,_,ls')=>∃lv' a cap,e=.returned (.slice a xs.length cap)/\Ks (λ j=>w.heap.size<=j/\lv'.ownBlock≠some j) w' xs (.slice a xs.length cap)/\CkS n0 b mb v0 ss fs k env ls' lv' w'/\Fm (Eo b mb lv) w w'/\(∀j,lv'.ownBlock=some j->lv.ownBlock=some j\/w.heap.size<=j)
 | .inr (a,er)=>e=.panicked (Ag a er)/\Fm (Eo b mb lv) w w'
def Tj(l:List Px.St):Prop:=∀(n0 b mb:Nat) (v0 ss fs:Value) (k:Ck.Kx) (env:Ck.Env) (ls:List (List UInt8)) (lv sl:Value) (row:AR) (w:World),CkS n0 b mb v0 ss fs k env ls lv w->KOk k env->ls.length<=32->SlRow (Old n0 b mb) w 9 sl l.length row->As (Old n0 b mb) w l row->AA 77 #[pt b 0,sl] w λ e w'=>Ij n0 b mb v0 ss fs k env lv w (Ck.cSs k env ls l) e w'
def C1(n0 b mb:Nat)(v0 ss fs:Value)(k:Ck.Kx)(env:Ck.Env)(lv:Value)(w:World)(r:Ck.R Ck.St1)(e:Ending)(w':World):Prop:=
 match r with
 | .inl (x,_,ls')=>∃lv' cs,e=.returned (.agg cs.toArray)/\C0 (λ j=>w.heap.size<=j/\lv'.ownBlock≠some j) w' x cs/\CkS n0 b mb v0 ss fs k env ls' lv' w'/\Fm (Eo b mb lv) w w'/\(∀j,lv'.ownBlock=some j->lv.ownBlock=some j\/w.heap.size<=j)
 | .inr (a,er)=>e=.panicked (Ag a er)/\Fm (Eo b mb lv) w w'
theorem KOk.more{k:Ck.Kx}{env:Ck.Env}(h:KOk k env)(x:AQ)(m:Mng)(h1:m.kind≠0)(h2:m.type.length<=1000):KOk k (env ++ [(x,m)]):=
 ⟨λ y hy=>by
  rcases mem_append.1 hy with hy | hy
  .exact h.eok y hy
  .simp at hy;subst hy;exact h1,λ y hy=>by
  rcases mem_append.1 hy with hy | hy
  .exact h.elen y hy
  .simp at hy;subst hy;exact h2,h.res,h.pars,h.num,h.cur⟩
theorem Oz:∀(env:Ck.Env) (x:AQ),D6 env->(Ck.look env x).kind=0->∀y∈env,y.1≠x
 | [],x,h,h0=>by simp
 | a :: r,x,h,h0=>by
  rw[Ck.look] at h0;intro y hy;by_cases e:a.1=x
  .simp[e] at h0;exact absurd h0 (h a (AC ..))
  .simp[e] at h0;rcases mem_cons.1 hy with rfl | hy
   .exact e
   .exact Oz r x (λ z hz=>h z (AH _ hz)) h0 y hy
theorem Tl{c:Bool}{er:Nat}{u:Unit}(h:Ck.need c p er=.inl u):c=true:=by
 cases c
 .cases h
 .rfl
theorem Tm{env:Ck.Env}{ls:List (List UInt8)}{kind:Nat}{ty:AQ}{r:Ck.Env × List (List UInt8)}(he:D6 env)(h:Ck.loc env ls x p kind ty=.inl r):r.2=ls ++ [ty]/\r.2.length<=32/\∀y∈env,y.1≠x:=by
 obtain⟨e,h1,h⟩:=An h;obtain⟨_,h2,h⟩:=An h;obtain⟨_,h3,h1⟩:=An h1;have h4:=Tl h2;have h5:=Tl h3;cases h;simp at h4 h5;exact⟨rfl,by simp;omega,Oz env x he h5.2⟩
end
section
open Go.RowKit
open Ck (CE CS CF CP Mng)
attribute [local go_sem ↓] Go.wp_at_zero Go.wp_at_succ
theorem Ak6{x:Px.Ex}(hE:EOk x){body:List Px.St}(bp:Tj body){n:AQ}{lv:Value}{k:Ck.Kx}{env:Ck.Env}{ls:List (List UInt8)}(h:CkS n0 b mb v0 ss fs k env ls lv w)(ho:KOk k env)(hl:ls.length<=32){row ai:AR}(hr:SlRow (Old n0 b mb) w 8 s1 1 row)(ha:Ai (Old n0 b mb) w [x] row)(b2 b3:Option Addr)(m3 d2 d3:Nat)(bn:SlRow (Old n0 b mb) w 9 (.slice b2 body.length d2) body.length ai)(cg:As (Old n0 b mb) w body ai) :
  AA 144 #[pt b 0,.agg (stA 5 n s1 (.slice b2 body.length d2) (.slice b3 m3 d3) p)] w λ e w'=>C1 n0 b mb v0 ss fs k env lv w (Ck.bind (Ck.asked (Ck.cE (k.at env) x,Ck.plc x) Ck.tInt) λ x=>Ck.bind (Ck.loc env ls n p 4 Ck.tInt) λ e=>Ck.bind (Ck.cSs k e.1 e.2 body) λ a=>.inl (CS.mk 5 ls.length false 0 [x] a.1 [],env,a.2.2)) e w':=by
 obtain⟨kk,Hk⟩:∃kk:Nat,Hid (5=kk):=⟨_,rfl⟩;have cd:Hid ((Ck.bind (Ck.asked (Ck.cE (k.at env) x,Ck.plc x) Ck.tInt) λ x=>Ck.bind (Ck.loc env ls n p 4 Ck.tInt) λ e=>Ck.bind (Ck.cSs k e.1 e.2 body) λ a=>.inl (CS.mk 5 ls.length false 0 [x] a.1 [],env,a.2.2))=(Ck.bind (Ck.asked (Ck.cE (k.at env) x,Ck.plc x) Ck.tInt) λ x=>Ck.bind (Ck.loc env ls n p 4 Ck.tInt) λ e=>Ck.bind (Ck.cSs k e.1 e.2 body) λ a=>.inl (CS.mk kk ls.length false 0 [x] a.1 [],env,a.2.2):Ck.R Ck.St1)):=by rw[<-Hk.out];rfl
 rw[cd.out];have az:Hid (stA 5 n s1 (.slice b2 body.length d2) (.slice b3 m3 d3) p=stA kk n s1 (.slice b2 body.length d2) (.slice b3 m3 d3) p):=by rw[<-Hk.out];rfl
 rw[az.out];clear cd az Hk;obtain⟨bl,bh⟩:∃bl,Hid (body.length=bl):=⟨_,rfl⟩;rw[bh.out] at bn;rw[bh.out];obtain⟨w0,w1,dh,dd,l0,l1,dy,ar,e7,ch,dl⟩:=D9 w kk n s1 (.slice b2 bl d2) (.slice b3 m3 d3) p;have bv:=hr.since (Since.of_below ar);have bo:=ha.since (Since.of_below ar);have h1:=h.keep ar;obtain⟨g,og,cap,ka,oa,na,ta,aa,pa,e1,cz,rfl,cp,hg,rfl,⟨u0,u1,u2,u3,u4,u5,u6,u7⟩,bc,c8⟩:=Bj (args:=[x]) bv bo rfl;have hA:=Ca hE rfl h1.at ho.cx bc c8 Ck.tInt;obtain⟨dw,co,rfl,-,-⟩:=bc.val;obtain⟨d0,d1,df,cy,d4,d5,d6,d7,d8,-⟩:=Aj ch;have e3:b<w.heap.size:=by have:=h.hb;have:=h.sz;omega
 have dv:mb<w.heap.size:=by have:=h.hm;have:=h.sz;omega
 obtain⟨R,HR⟩:∃R:Ck.R Ck.St1,Hid ((Ck.bind (Ck.asked (Ck.cE (k.at env) (.mk ka oa na ta aa pa),pa) Ck.tInt) λ x=>Ck.bind (Ck.loc env ls n p 4 Ck.tInt) λ e=>Ck.bind (Ck.cSs k e.1 e.2 body) λ a=>.inl (CS.mk kk ls.length false 0 [x] a.1 [],env,a.2.2))=R):=⟨_,rfl⟩;show Calls _ _ _ _ λ e w'=>C1 n0 b mb v0 ss fs k env lv w (Ck.bind (Ck.asked (Ck.cE (k.at env) (.mk ka oa na ta aa pa),pa) Ck.tInt) λ x=>Ck.bind (Ck.loc env ls n p 4 Ck.tInt) λ e=>Ck.bind (Ck.cSs k e.1 e.2 body) λ a=>.inl (CS.mk kk ls.length false 0 [x] a.1 [],env,a.2.2)) e w'
 rw[HR.out];generalize Ck.asked (Ck.cE (k.at env) (.mk ka oa na ta aa pa),pa) Ck.tInt=C at *;have i0:(0:Int)<1:=by omega
 have e4:([Px.Ex.mk ka oa na ta aa pa]:List Px.Ex).length=1:=rfl;clear hr ha hE bv bo h1 bc c8;simp only[length_cons,length_nil,Nat.zero_add] at *;go_enter func144,ntmps144;go_wp2_with fail;refine hA.mono ?_;rintro e w2 hP;clear hA dh dd;rcases C with⟨k2,o2,n2,t2,s2,y2,a3⟩ | ⟨a,er⟩
 rotate_left
 .obtain⟨hm,b6⟩:=hP;obtain rfl:=hm;have a0:C1 n0 b mb v0 ss fs k env lv w R (.panicked (Ag a er)) w2:=by rw[<-HR.out];exact⟨rfl,BE (ar.trans (b6.mono (by omega)))⟩
  exact⟨rfl,a0⟩
 obtain⟨sl2,row2,rfl,bb,cl,b6⟩:=hP.inl;obtain⟨a2,c2,rfl,-,-⟩:=bb.val;have cr:=b6.size;obtain⟨wz,w3,dc,dk,c3,cm,cq,dt,ae,ay⟩:=Cc w2 (iv k2) (iv o2) (iv n2) (strV t2) (iv s2) (strV y2) (.slice a2 a3.length c2) (iv 0);have lz:w2.heap.size<wz.heap.size:=by omega
 have l3:w2.heap.size<w3.heap.size:=by omega
 clear cm cq hP;obtain⟨z0,z1,z2,z3,z4,z5,z6,z7,f0,f1,f2,f3,f4,f5,f6,f7⟩:=Ac ay;have a7:Below w1.heap.size w1 w3:=b6.trans (c3.mono cr);have cv:Below w.heap.size w w3:=ar.trans (a7.mono (by omega));have dz:=h.sz;have c5:=Hg (n0:=n0) (b:=b) (w:=w3) (by have:=cv.size;omega);have bg:Hid (R=Ck.bind (Ck.loc env ls n p 4 Ck.tInt) λ e=>Ck.bind (Ck.cSs k e.1 e.2 body) λ a=>.inl (CS.mk kk ls.length false 0 [.mk k2 o2 n2 t2 s2 y2 a3] a.1 [],env,a.2.2)):=HR.out.symm;clear HR d0 d1 df cy d4 d5 d6 d7 d8 u0 u1 u2 u3 u4 u5 u6 u7;go_wp2_with fail;refine c5.mono ?_;rintro e w4 ⟨cb,nb,rfl,c7,e5,e0,b9⟩;clear c5 dc dk z0 z1 z2 z3 z4 z5 z6 z7 f0 f1 f2 f3 f4 f5 f6 f7;have dq:=b9.size;have d9:=a7.size;have aj:Below w1.heap.size w1 w4:=a7.trans (b9.mono a7.size);have bf:Below w.heap.size w w4:=ar.trans (aj.mono (by omega));have b5:=(aj.block _ (by omega)).trans ch;obtain⟨-,d1,-,-,-,-,-,-,d8,-⟩:=Aj b5;have l4:w.heap.size<w4.heap.size:=by omega
 have c6:Apart lv sZ cb nb:=⟨λ e=>by have:=(h.loc.lt e).2;omega,λ e=>by have:=(h.loc.lt e).2;omega,λ j _ e=>by cases e⟩;have hL:=J6 (h.keep bf) ho.eok c7 c6 hl (by simp) n p 4 0 Ck.tInt;have c1:∀r,Ck.loc env ls n p 4 Ck.tInt=.inl r->r.1=env ++ [(n,⟨4,ls.length,Ck.tInt⟩)]/\r.2.length<=32/\∀y∈env,y.1≠n:=λ r hr=>⟨Lc hr,(Tm ho.eok hr).2⟩
 generalize Ck.loc env ls n p 4 Ck.tInt=D at *;go_wp2_with fail;refine hL.mono ?_;rintro e w5 hP;clear hL d1 d8;have bk:∀j,j<w.heap.size->Jd b mb nb lv sZ j->Eo b mb lv j:=λ j hj e=>by
  rcases e with e | e | e | e | e
  .exact AI e
  .exact AJ (AI e)
  .omega
  .exact AJ (AJ e)
  .cases e
 have hT:∀j,w.heap.size<=j->j<w3.heap.size->¬Jd b mb nb lv sZ j:=λ j hj hj2=>by
  rintro (e | e | e | e | e)
  .omega
  .omega
  .omega
  .have:=(h.loc.lt e).2;omega
  .cases e
 rcases D with⟨env',ls'⟩ | ⟨a,er⟩
 rotate_left
 .obtain⟨hm,ag⟩:=hP;obtain rfl:=hm;have a0:C1 n0 b mb v0 ss fs k env lv w R (.panicked (Ag a er)) w5:=by rw[bg.out];exact⟨rfl,(Fm.of_below (X:=λ _=>False) bf).trans ag (λ _ _ h=>h.elim) bk⟩
  exact⟨rfl,a0⟩
 obtain⟨b7,dn,rfl,ce,ad,b8,ag,b4,di⟩:=hP;obtain⟨bs,cf,b0⟩:=c1 _ rfl;simp only at bs cf;subst bs;have da:=ag.size;have br:=(ag.block _ l4 (hT _ (AD _) (by omega))).trans b5;obtain⟨-,-,-,-,-,-,d6,-⟩:=Aj br;have l5:w.heap.size<w5.heap.size:=by omega
 have a5:Fm (Eo b mb lv) w w5:=(Fm.of_below (X:=λ _=>False) bf).trans ag (λ _ _ h=>h.elim) bk;have bj:Since (Old n0 b mb) w w5:=a5.since (λ j hj e=>by
  rcases e with e | e | e
  .exact hj.2.1 e
  .exact hj.2.2 e
  .have:=(h.loc.lt e).1;have:=hj.1;omega)
 have hB:=bp n0 b mb v0 ss fs k _ ls' b7 (.slice b2 bl d2) ai w5 ce (ho.more n _ (by simp) (by simp[Ck.tInt])) cf (by rw[bh.out];exact bn.since bj) (cg.since bj);have bi:Hid (R=Ck.bind (Ck.cSs k (env ++ [(n,⟨4,ls.length,Ck.tInt⟩)]) ls' body) λ a=>.inl (CS.mk kk ls.length false 0 [.mk k2 o2 n2 t2 s2 y2 a3] a.1 [],env,a.2.2)):=bg.out;generalize Ck.cSs k (env ++ [(n,⟨4,ls.length,Ck.tInt⟩)]) ls' body=E at *;clear bg c1 bn cg;go_wp2_with fail;refine hB.mono ?_;rintro e w6 hP;clear hB d6 bp;have a6:∀j,b7.ownBlock=some j->lv.ownBlock=some j\/w4.heap.size<=j:=b4;have aq:∀j,j<w.heap.size->Eo b mb b7 j->Eo b mb lv j:=λ j hj e=>by
  rcases e with e | e | e
  .exact AI e
  .exact AJ (AI e)
  .rcases a6 j e with e | e
   .exact AJ (AJ e)
   .omega
 have c9:∀j,w.heap.size<=j->j<w3.heap.size->¬Eo b mb b7 j:=λ j hj hj2=>by
  rintro (e | e | e)
  .omega
  .omega
  .rcases a6 j e with e | e
   .have:=(h.loc.lt e).2;omega
   .omega
 rcases E with⟨xs,de,cu⟩ | ⟨a,er⟩
 rotate_left
 .obtain⟨hm,am⟩:=hP;obtain rfl:=hm;have a0:C1 n0 b mb v0 ss fs k env lv w R (.panicked (Ag a er)) w6:=by rw[bi.out];exact⟨rfl,a5.trans am (λ _ _ h=>h) aq⟩
  exact⟨rfl,a0⟩
 obtain⟨a8,ab,au,rfl,cj,ak,am,ax⟩:=hP;have cw:=am.size;have ci:Sc n0 b cb nb dn ([] ++ [n]) w6:=ad.keep (λ j hj=>am.block j (by
  rcases hj with rfl | rfl | e
  .exact (AB ad.cbk).1
  .exact (AB ad.nbk).1
  .exact (ad.own.lt e).2) (by
  have du:n0<=j:=by
   rcases hj with rfl | rfl | e
   .exact ad.cn
   .exact ad.nn
   .exact (ad.own.lt e).1
  rintro (e | e | e)
  .have:=h.hb;omega
  .have:=h.hm;omega
  .rcases hj with rfl | rfl | e2
   .exact b8.c e
   .exact b8.n e
   .exact b8.v j e e2))
 have bw:=Ih ak.blk ak.env ci h.hm h.bm (λ y hy x hx=>by simp at hx;subst hx;exact b0 y hy);go_wp2_with fail;refine bw.mono ?_;rintro e w7 ⟨rfl,bt,a9⟩;clear bw;have ct:=a9.size;have a4:∀j,w.heap.size<=j->j<w3.heap.size->w7.heap[j]?=w4.heap[j]?:=λ j hj hj2=>(a9.block j (by omega) (by omega)).trans ((am.block j (by omega) (c9 j hj hj2)).trans (ag.block j (by omega) (hT j hj hj2)))
 have ca:=(a4 w.heap.size (AD _) (by omega)).trans b5;have af:=(a4 w2.heap.size (by omega) l3).trans ((b9.block _ l3).trans ae);have c4:=(a4 w0.heap.size (by omega) (by omega)).trans ((aj.block _ (by omega)).trans dl);obtain⟨q0,q1,q2,q3,q4,q5,q6,q7,-⟩:=Ac af;obtain⟨d0,-⟩:=Aj ca;have l7:w2.heap.size<w7.heap.size:=by omega
 have e6:w.heap.size<w7.heap.size:=by omega
 obtain⟨w8,cc⟩:∃w8,w7.alloc (.cells #[iv k2,iv o2,iv n2,strV t2,iv s2,strV y2,.slice a2 a3.length c2,iv 0] 48)=w8:=⟨_,rfl⟩;have aw:Below w7.heap.size w7 w8:=by rw[<-cc];exact (AF _ _).alloc (AD _) _
 have bd:=(aw.block w0.heap.size (by omega)).trans c4;obtain⟨r0,r1,r2,r3,r4,r5,r6,r7,r8,t0,t1,ds,t3,t4,t5,t6,t7,t8⟩:=Aj bd;have db:w0.heap.size<w8.heap.size:=(AB bd).1;have a0:C1 n0 b mb v0 ss fs k env lv w R (.returned (.agg #[iv kk,sE,iv ls.length,.bool false,iv 0,sL w7.heap.size 0 1 1,.slice ab xs.length au,sZ,iv 0])) (A6 w8 w0.heap.size (iv kk) sE (iv ls.length) (.bool false) (iv 0) (sL w7.heap.size 0 1 1) (.slice ab xs.length au) sZ (iv 0)):=by
  rw[bi.out];have ah:∀j,a8.ownBlock=some j->lv.ownBlock=some j\/w4.heap.size<=j:=λ j hj=>by
   rcases ax j hj with e | e
   .exact a6 j e
   .exact AJ (by omega)
  have al:∀j,a8.ownBlock=some j->n0<=j/\j<w6.heap.size:=λ j hj=>ak.loc.lt hj
  have bx:∀j,lv.ownBlock=some j->j<w.heap.size:=λ j hj=>(h.loc.lt hj).2
  have dj:CkS n0 b mb v0 ss fs k env cu a8 w7:=⟨(a9.block b (by omega) h.bm).trans ak.blk,ak.hds.since (a9.since (λ j hj e=>hj.2.2 e)),bt,ak.loc.since (λ j hj=>a9.block j (al j hj).2 (λ e=>by have:=(al j hj).1;have:=h.hm;omega)),h.hb,h.hm,h.bm,by omega⟩;have c0:Fm (λ j=>j=w0.heap.size) w7 (A6 w8 w0.heap.size (iv kk) sE (iv ls.length) (.bool false) (iv 0) (sL w7.heap.size 0 1 1) (.slice ab xs.length au) sZ (iv 0)):=(Fm.of_below (X:=λ _=>False) aw).trans (Fm.set9 w8 w0.heap.size _ _ _ _ _ _ _ _ _ ) (λ _ _ h=>h.elim) (λ _ _ h=>h);have dx:=aw.size;have bq:Since (λ j=>w1.heap.size<=j/\j<w2.heap.size) w2 (A6 w8 w0.heap.size (iv kk) sE (iv ls.length) (.bool false) (iv 0) (sL w7.heap.size 0 1 1) (.slice ab xs.length au) sZ (iv 0)):=⟨by rw[Bg];omega,λ j hj hl=>by
   rw[Ar (by omega)];exact (aw.block j (by omega)).trans ((a4 j (by omega) (by omega)).trans ((b9.block j (by omega)).trans (c3.block j hl)))⟩
  have bu:Since (λ j=>w5.heap.size<=j/\a8.ownBlock≠some j) w6 (A6 w8 w0.heap.size (iv kk) sE (iv ls.length) (.bool false) (iv 0) (sL w7.heap.size 0 1 1) (.slice ab xs.length au) sZ (iv 0)):=⟨by rw[Bg];omega,λ j hj hl=>by
   rw[Ar (by omega)];exact (aw.block j (by omega)).trans (a9.block j hl (by omega))⟩
  have av:SlRow (From w7.heap.size) w8 8 (sL w7.heap.size 0 1 1) 1 [iv k2,iv o2,iv n2,strV t2,iv s2,strV y2,.slice a2 a3.length c2,iv 0]:=by rw[<-cc];exact En (AD _)
  have dm:Since (From w7.heap.size) w8 (A6 w8 w0.heap.size (iv kk) sE (iv ls.length) (.bool false) (iv 0) (sL w7.heap.size 0 1 1) (.slice ab xs.length au) sZ (iv 0)):=⟨by rw[Bg];exact AD _,λ j hj hl=>Ar (by have:w7.heap.size<=j:=hj;omega) _ _ _ _ _ _ _ _ _ ⟩;have w12:∀j,From w1.heap.size j->j<w2.heap.size->(w1.heap.size<=j/\j<w2.heap.size):=λ j h1 h2=>⟨h1,h2⟩
  have wB:∀{wx:World} j,(w1.heap.size<=j/\j<w2.heap.size)->j<wx.heap.size->(w.heap.size<=j/\a8.ownBlock≠some j):=λ {wx} j h1 _=>⟨by omega,λ e=>by
   rcases ah j e with h | h
   .have:=bx j h;omega
   .omega⟩
  have wI:∀{wx:World} j,(w5.heap.size<=j/\a8.ownBlock≠some j)->j<wx.heap.size->(w.heap.size<=j/\a8.ownBlock≠some j):=λ {wx} j h1 _=>⟨by omega,h1.2⟩
  obtain⟨dr,be,ba⟩:=cj;refine⟨a8,_,rfl,?_,?_,?_,?_⟩
  .exact Gr ((av.since dm).base' (λ j hj _=>⟨by have:w7.heap.size<=j:=hj;omega,λ e=>by have:=(al j e).2;have:w7.heap.size<=j:=hj;omega⟩)) (Kz (De (((bb.base' w12).since bq).base' wB) (((cl.base w12).since bq).base wB))) ((be.since bu).base' wI) ((ba.since bu).base wI) BF Au.nil
  .exact dj.fm c0 (λ j hj=>by subst hj;exact⟨by omega,λ e=>by
    rcases ah _ e with h | h
    .have:=bx _ h;omega
    .omega⟩)
  .exact ((a5.trans am (λ _ _ h=>h) aq).trans a9 (λ _ _ h=>h) (λ j _ e=>AJ (AI e))).trans c0 (λ _ _ h=>h) (λ j hj e=>by omega)
  .intro j hj;rcases ah j hj with e | e
   .exact AI e
   .exact AJ (by omega)
 clear bi bb cl bd c4 ca af ae ce ak ad ci b8 ag am a9 b4 ax a6 hT c9 bk aq c6 h ho a4 cj bt c7 b5 br bj a5 b0;go_wp2_with fail;exact bodyPost_ret (by simp[results,results144,go_sem,db,r0,r1,r2,r3,r4,r5,r6,r7,r8]) rfl a0
theorem Ax.inl{k s n:Nat}{f:Bool}{es:List CE}{bs cs:List CS}{e:Ending}(h:Ax w (.inl (.mk k s f n es bs cs)) e w'):∃s1 s2 s3 r1 r2 r3,e=.returned (.agg #[iv k,sE,iv s,.bool f,iv n,s1,s2,s3,iv 0])/\(SlRow (From w.heap.size) w' 8 s1 es.length r1/\Aw (From w.heap.size) w' es r1/\SlRow (From w.heap.size) w' 9 s2 bs.length r2/\Au (From w.heap.size) w' bs r2/\SlRow (From w.heap.size) w' 9 s3 cs.length r3/\Au (From w.heap.size) w' cs r3)/\Below w.heap.size w w':=by
 obtain⟨⟨l,rfl,hi⟩,hb⟩:=h;rw[C0] at hi;obtain⟨s1,s2,s3,r1,r2,r3,rfl,h⟩:=hi;exact⟨s1,s2,s3,r1,r2,r3,rfl,h,hb⟩
theorem Ak7{n:AQ}{b2 b3:Option Addr}{m2 m3 d2 d3:Nat}{R:Ck.R CS}(nt:Value)(hF:∀w',Below w.heap.size w w'->AA 141 #[pt b 0,.agg (stA 2 n s1 (.slice b2 m2 d2) (.slice b3 m3 d3) p)] w' λ e w''=>Ax w' R e w'') :
  AA 115 #[pt b 0,.agg (stA 2 n s1 (.slice b2 m2 d2) (.slice b3 m3 d3) p),nt] w λ e w'=>Ax w R e w':=by
 obtain⟨w0,w1,ab,a9,l0,l1,af,a6,ag,a8,ad⟩:=D9 w 2 n s1 (.slice b2 m2 d2) (.slice b3 m3 d3) p;have hC:=hF w1 a6;obtain⟨c0,c1,c2,c3,c4,c5,c6,c7,c8,-⟩:=Aj a8;have i1:((2:Int) == 1)=false:=rfl;have i2:((2:Int) == 2)=true:=rfl;clear hF a8;go_enter func115,ntmps115;go_wp2_with fail;refine hC.mono ?_;rintro e w2 hP;clear hC ab a9 c0 c1 c2 c3 c4 c5 c6 c7 c8;rcases R with⟨k2,o2,f2,n2,es,bs,cs⟩ | ⟨a,er⟩
 rotate_left
 .obtain⟨hm,a5⟩:=hP;obtain rfl:=hm;have a0:Ax w (.inr (a,er)) (.panicked (Ag a er)) w2:=⟨rfl,a6.trans (a5.mono (by omega))⟩;exact⟨rfl,a0⟩
 obtain⟨t1,t2,t3,r1,r2,r3,rfl,⟨h1,h2,h3,h4,h5,h6⟩,a5⟩:=hP.inl;obtain⟨e1,e2,rfl,-,-⟩:=h1.val;obtain⟨e3,e4,rfl,-,-⟩:=h3.val;obtain⟨e5,e6,rfl,-,-⟩:=h5.val;have a7:=(a5.block _ l1).trans ad;obtain⟨q0,q1,q2,q3,q4,q5,q6,q7,q8,t0,t1,ae,t3,t4,t5,t6,t7,t8⟩:=Aj a7;have aa:w0.heap.size<w2.heap.size:=(AB a7).1;have a0:Ax w (.inl (.mk k2 o2 f2 n2 es bs cs)) (.returned (.agg #[iv k2,sE,iv o2,.bool f2,iv n2,.slice e1 es.length e2,.slice e3 bs.length e4,.slice e5 cs.length e6,iv 0])) (A6 w2 w0.heap.size (iv k2) sE (iv o2) (.bool f2) (iv n2) (.slice e1 es.length e2) (.slice e3 bs.length e4) (.slice e5 cs.length e6) (iv 0)):=by
  have a3:Since (From w1.heap.size) w2 (A6 w2 w0.heap.size (iv k2) sE (iv o2) (.bool f2) (iv n2) (.slice e1 es.length e2) (.slice e3 bs.length e4) (.slice e5 cs.length e6) (iv 0)):=⟨by rw[Bg];exact AD _,λ j hj _=>Ar (by have:w1.heap.size<=j:=hj;omega) _ _ _ _ _ _ _ _ _ ⟩;have a4:∀{wx:World} j,From w1.heap.size j->j<wx.heap.size->From w.heap.size j:=λ {wx} j hj _=>by have:w1.heap.size<=j:=hj;show w.heap.size<=j;omega
  exact⟨⟨_,rfl,Gr ((h1.since a3).base' a4) ((h2.since a3).base a4) ((h3.since a3).base' a4) ((h4.since a3).base a4) ((h5.since a3).base' a4) ((h6.since a3).base a4)⟩,B1 (a6.trans (a5.mono (by omega))) (by omega) _ _ _ _ _ _ _ _ _ ⟩
 clear h1 h2 h3 h4 h5 h6 a7 hP;go_wp2_with fail;exact bodyPost_ret (by simp[results,results115,go_sem,aa,q0,q1,q2,q3,q4,q5,q6,q7,q8]) rfl a0
theorem Ay9{n:AQ}{b2 b3:Option Addr}{m2 m3 d2 d3:Nat}{R:Ck.R CS}(nt:Value)(hF:∀w',Below w.heap.size w w'->AA 142 #[pt b 0,.agg (stA 3 n s1 (.slice b2 m2 d2) (.slice b3 m3 d3) p)] w' λ e w''=>Ax w' R e w'') :
  AA 115 #[pt b 0,.agg (stA 3 n s1 (.slice b2 m2 d2) (.slice b3 m3 d3) p),nt] w λ e w'=>Ax w R e w':=by
 obtain⟨w0,w1,ab,a9,l0,l1,af,a6,ag,a8,ad⟩:=D9 w 3 n s1 (.slice b2 m2 d2) (.slice b3 m3 d3) p;have hC:=hF w1 a6;obtain⟨c0,c1,c2,c3,c4,c5,c6,c7,c8,-⟩:=Aj a8;have i1:((3:Int) == 1)=false:=rfl;have i2:((3:Int) == 2)=false:=rfl;have i3:((3:Int) == 3)=true:=rfl;clear hF a8;go_enter func115,ntmps115;go_wp2_with fail;refine hC.mono ?_;rintro e w2 hP;clear hC ab a9 c0 c1 c2 c3 c4 c5 c6 c7 c8;rcases R with⟨k2,o2,f2,n2,es,bs,cs⟩ | ⟨a,er⟩
 rotate_left
 .obtain⟨hm,a5⟩:=hP;obtain rfl:=hm;have a0:Ax w (.inr (a,er)) (.panicked (Ag a er)) w2:=⟨rfl,a6.trans (a5.mono (by omega))⟩;exact⟨rfl,a0⟩
 obtain⟨t1,t2,t3,r1,r2,r3,rfl,⟨h1,h2,h3,h4,h5,h6⟩,a5⟩:=hP.inl;obtain⟨e1,e2,rfl,-,-⟩:=h1.val;obtain⟨e3,e4,rfl,-,-⟩:=h3.val;obtain⟨e5,e6,rfl,-,-⟩:=h5.val;have a7:=(a5.block _ l1).trans ad;obtain⟨q0,q1,q2,q3,q4,q5,q6,q7,q8,t0,t1,ae,t3,t4,t5,t6,t7,t8⟩:=Aj a7;have aa:w0.heap.size<w2.heap.size:=(AB a7).1;have a0:Ax w (.inl (.mk k2 o2 f2 n2 es bs cs)) (.returned (.agg #[iv k2,sE,iv o2,.bool f2,iv n2,.slice e1 es.length e2,.slice e3 bs.length e4,.slice e5 cs.length e6,iv 0])) (A6 w2 w0.heap.size (iv k2) sE (iv o2) (.bool f2) (iv n2) (.slice e1 es.length e2) (.slice e3 bs.length e4) (.slice e5 cs.length e6) (iv 0)):=by
  have a3:Since (From w1.heap.size) w2 (A6 w2 w0.heap.size (iv k2) sE (iv o2) (.bool f2) (iv n2) (.slice e1 es.length e2) (.slice e3 bs.length e4) (.slice e5 cs.length e6) (iv 0)):=⟨by rw[Bg];exact AD _,λ j hj _=>Ar (by have:w1.heap.size<=j:=hj;omega) _ _ _ _ _ _ _ _ _ ⟩;have a4:∀{wx:World} j,From w1.heap.size j->j<wx.heap.size->From w.heap.size j:=λ {wx} j hj _=>by have:w1.heap.size<=j:=hj;show w.heap.size<=j;omega
  exact⟨⟨_,rfl,Gr ((h1.since a3).base' a4) ((h2.since a3).base a4) ((h3.since a3).base' a4) ((h4.since a3).base a4) ((h5.since a3).base' a4) ((h6.since a3).base a4)⟩,B1 (a6.trans (a5.mono (by omega))) (by omega) _ _ _ _ _ _ _ _ _ ⟩
 clear h1 h2 h3 h4 h5 h6 a7 hP;go_wp2_with fail;exact bodyPost_ret (by simp[results,results115,go_sem,aa,q0,q1,q2,q3,q4,q5,q6,q7,q8]) rfl a0
theorem Az0{cb nb:Nat}{lv nv:Value}{k:Ck.Kx}{env:Ck.Env}{ls names:List (List UInt8)}{n:AQ}{b2 b3:Option Addr}{m2 m3 d2 d3:Nat}{R:Ck.R Ck.St1}(h:CkS n0 b mb v0 ss fs k env ls lv w)(hs:Sc n0 b cb nb nv names w)(hF:∀w',Below w.heap.size w w'->AA 140 #[pt b 0,.agg (stA 1 n s1 (.slice b2 m2 d2) (.slice b3 m3 d3) p),.func (.func 112) #[] #[pt cb 0,pt nb 0]] w' λ e w''=>B0 n0 b mb cb nb v0 ss fs k env lv nv names w' R e w'') :
  AA 115 #[pt b 0,.agg (stA 1 n s1 (.slice b2 m2 d2) (.slice b3 m3 d3) p),.func (.func 112) #[] #[pt cb 0,pt nb 0]] w λ e w'=>B0 n0 b mb cb nb v0 ss fs k env lv nv names w R e w':=by
 obtain⟨w0,w1,ay,aw,l0,l1,b6,a7,ba,ak,b0⟩:=D9 w 1 n s1 (.slice b2 m2 d2) (.slice b3 m3 d3) p;have hC:=hF w1 a7;obtain⟨c0,c1,c2,c3,c4,c5,c6,c7,c8,-⟩:=Aj ak;have i1:((1:Int) == 1)=true:=rfl;have b8:b<w.heap.size:=by have:=h.hb;have:=h.sz;omega
 have b5:mb<w.heap.size:=by have:=h.hm;have:=h.sz;omega
 have b7:=h.sz;have aa:∀j,lv.ownBlock=some j->j<w.heap.size:=λ j hj=>(h.loc.lt hj).2
 have bb:cb<w.heap.size:=(AB hs.cbk).1;have b9:nb<w.heap.size:=(AB hs.nbk).1;have a9:∀j,nv.ownBlock=some j->j<w.heap.size:=λ j hj=>(hs.own.lt hj).2
 clear hs;clear hF ak h;go_enter func115,ntmps115;go_wp2_with fail;refine hC.mono ?_;rintro e w2 hP;clear hC ay aw c0 c1 c2 c3 c4 c5 c6 c7 c8;rcases R with⟨⟨k2,o2,f2,n2,es,bs,cs⟩,env',ls'⟩ | ⟨a,er⟩
 rotate_left
 .obtain⟨hm,a5⟩:=hP;obtain rfl:=hm;have a0:B0 n0 b mb cb nb v0 ss fs k env lv nv names w (.inr (a,er)) (.panicked (Ag a er)) w2:=⟨rfl,(Fm.of_below (X:=λ _=>False) a7).trans a5 (λ _ _ h=>h.elim) (λ _ _ h=>h)⟩;exact⟨rfl,a0⟩
 obtain⟨lv',a6,more,l,rfl,hi,aj,ai,ae,ah,a5,ag,a8⟩:=hP;rw[C0] at hi;obtain⟨t1,t2,t3,r1,r2,r3,rfl,h1,h2,h3,h4,h5,h6⟩:=hi;obtain⟨e1,e2,rfl,-,-⟩:=h1.val;obtain⟨e3,e4,rfl,-,-⟩:=h3.val;obtain⟨e5,e6,rfl,-,-⟩:=h5.val;have az:=a5.size;have hT:¬(Jd b mb nb lv nv) w0.heap.size:=by
  rintro (e | e | e | e | e)
  .omega
  .omega
  .omega
  .have:=aa _ e;omega
  .have:=a9 _ e;omega
 have ad:=(a5.block _ l1 hT).trans b0;obtain⟨q0,q1,q2,q3,q4,q5,q6,q7,q8,t0,t1,b4,t3,t4,t5,t6,t7,t8⟩:=Aj ad;have ax:w0.heap.size<w2.heap.size:=(AB ad).1;have a0:B0 n0 b mb cb nb v0 ss fs k env lv nv names w (.inl (.mk k2 o2 f2 n2 es bs cs,env',ls')) (.returned (.agg #[iv k2,sE,iv o2,.bool f2,iv n2,.slice e1 es.length e2,.slice e3 bs.length e4,.slice e5 cs.length e6,iv 0])) (A6 w2 w0.heap.size (iv k2) sE (iv o2) (.bool f2) (iv n2) (.slice e1 es.length e2) (.slice e3 bs.length e4) (.slice e5 cs.length e6) (iv 0)):=by
  have al:lv'.ownBlock≠some w0.heap.size:=λ e=>by
   rcases ag _ e with e | e
   .have:=aa _ e;omega
   .omega
  have ar:a6.ownBlock≠some w0.heap.size:=λ e=>by
   rcases a8 _ e with e | e
   .have:=a9 _ e;omega
   .omega
  have a3:Since (λ j=>w1.heap.size<=j/\lv'.ownBlock≠some j/\a6.ownBlock≠some j) w2 (A6 w2 w0.heap.size (iv k2) sE (iv o2) (.bool f2) (iv n2) (.slice e1 es.length e2) (.slice e3 bs.length e4) (.slice e5 cs.length e6) (iv 0)):=⟨by rw[Bg];exact AD _,λ j hj _=>Ar (by omega) _ _ _ _ _ _ _ _ _ ⟩;have a4:∀{wx:World} j,(w1.heap.size<=j/\lv'.ownBlock≠some j/\a6.ownBlock≠some j)->j<wx.heap.size->(w.heap.size<=j/\lv'.ownBlock≠some j/\a6.ownBlock≠some j):=λ {wx} j hj _=>⟨by omega,hj.2⟩
  have ab:=Fm.set9 w2 w0.heap.size (iv k2) sE (iv o2) (.bool f2) (iv n2) (.slice e1 es.length e2) (.slice e3 bs.length e4) (.slice e5 cs.length e6) (iv 0);have au:=Gr (k:=k2) (s:=o2) (n:=n2) (f:=f2) ((h1.since a3).base' a4) ((h2.since a3).base a4) ((h3.since a3).base' a4) ((h4.since a3).base a4) ((h5.since a3).base' a4) ((h6.since a3).base a4);have aq:=ai.fm ab (λ j hj=>by subst hj;exact⟨by omega,al⟩);have av:Fm (Jd b mb nb lv nv) w (A6 w2 w0.heap.size (iv k2) sE (iv o2) (.bool f2) (iv n2) (.slice e1 es.length e2) (.slice e3 bs.length e4) (.slice e5 cs.length e6) (iv 0)):=((Fm.of_below (X:=λ _=>False) a7).trans a5 (λ _ _ h=>h.elim) (λ _ _ h=>h)).trans ab (λ _ _ h=>h) (λ j hj e=>by omega);have af:∀j,lv'.ownBlock=some j->lv.ownBlock=some j\/w.heap.size<=j:=λ j hj=>(ag j hj).imp id (λ e=>by omega)
  have am:=ae.keep (w':=(A6 w2 w0.heap.size (iv k2) sE (iv o2) (.bool f2) (iv n2) (.slice e1 es.length e2) (.slice e3 bs.length e4) (.slice e5 cs.length e6) (iv 0))) (λ j hj=>ab.block j (by
   rcases hj with rfl | rfl | e
   .omega
   .omega
   .exact (ae.own.lt e).2) (by
   rintro rfl;rcases hj with e | e | e
   .omega
   .omega
   .exact ar e))
  exact⟨lv',a6,more,_,rfl,au,aj,aq,am,ah,av,af,λ j hj=>(a8 j hj).imp id (λ e=>by omega)⟩
 clear a8 ae ah aj a9;clear h1 h2 h3 h4 h5 h6 ad ai a5 ag hT aa;go_wp2_with fail;exact bodyPost_ret (by simp[results,results115,go_sem,ax,q0,q1,q2,q3,q4,q5,q6,q7,q8]) rfl a0
theorem As1{lv:Value}{k:Ck.Kx}{env:Ck.Env}{ls:List (List UInt8)}{n:AQ}{b2 b3:Option Addr}{m2 m3 d2 d3:Nat}{R:Ck.R Ck.St1}(h:CkS n0 b mb v0 ss fs k env ls lv w)(nt:Value)(hF:∀w',Below w.heap.size w w'->AA 144 #[pt b 0,.agg (stA 5 n s1 (.slice b2 m2 d2) (.slice b3 m3 d3) p)] w' λ e w''=>C1 n0 b mb v0 ss fs k env lv w' R e w'') :
  AA 115 #[pt b 0,.agg (stA 5 n s1 (.slice b2 m2 d2) (.slice b3 m3 d3) p),nt] w λ e w'=>C1 n0 b mb v0 ss fs k env lv w R e w':=by
 obtain⟨w0,w1,al,aj,l0,l1,av,a6,ay,ae,aq⟩:=D9 w 5 n s1 (.slice b2 m2 d2) (.slice b3 m3 d3) p;have hC:=hF w1 a6;obtain⟨c0,c1,c2,c3,c4,c5,c6,c7,c8,-⟩:=Aj ae;have i1:((5:Int) == 1)=false:=rfl;have i2:((5:Int) == 2)=false:=rfl;have i3:((5:Int) == 3)=false:=rfl;have i4:((5:Int) == 4)=false:=rfl;have i5:((5:Int) == 5)=true:=rfl;have ax:b<w.heap.size:=by have:=h.hb;have:=h.sz;omega
 have au:mb<w.heap.size:=by have:=h.hm;have:=h.sz;omega
 have aw:=h.sz;have a7:∀j,lv.ownBlock=some j->j<w.heap.size:=λ j hj=>(h.loc.lt hj).2
 clear hF ae h;go_enter func115,ntmps115;go_wp2_with fail;refine hC.mono ?_;rintro e w2 hP;clear hC al aj c0 c1 c2 c3 c4 c5 c6 c7 c8;rcases R with⟨⟨k2,o2,f2,n2,es,bs,cs⟩,env',ls'⟩ | ⟨a,er⟩
 rotate_left
 .obtain⟨hm,a5⟩:=hP;obtain rfl:=hm;have a0:C1 n0 b mb v0 ss fs k env lv w (.inr (a,er)) (.panicked (Ag a er)) w2:=⟨rfl,(Fm.of_below (X:=λ _=>False) a6).trans a5 (λ _ _ h=>h.elim) (λ _ _ h=>h)⟩;exact⟨rfl,a0⟩
 obtain⟨lv',l,rfl,hi,ab,a5,aa⟩:=hP;rw[C0] at hi;obtain⟨t1,t2,t3,r1,r2,r3,rfl,h1,h2,h3,h4,h5,h6⟩:=hi;obtain⟨e1,e2,rfl,-,-⟩:=h1.val;obtain⟨e3,e4,rfl,-,-⟩:=h3.val;obtain⟨e5,e6,rfl,-,-⟩:=h5.val;have am:=a5.size;have hT:¬(Eo b mb lv) w0.heap.size:=by
  rintro (e | e | e)
  .omega
  .omega
  .have:=a7 _ e;omega
 have a8:=(a5.block _ l1 hT).trans aq;obtain⟨q0,q1,q2,q3,q4,q5,q6,q7,q8,t0,t1,ar,t3,t4,t5,t6,t7,t8⟩:=Aj a8;have ak:w0.heap.size<w2.heap.size:=(AB a8).1;have a0:C1 n0 b mb v0 ss fs k env lv w (.inl (.mk k2 o2 f2 n2 es bs cs,env',ls')) (.returned (.agg #[iv k2,sE,iv o2,.bool f2,iv n2,.slice e1 es.length e2,.slice e3 bs.length e4,.slice e5 cs.length e6,iv 0])) (A6 w2 w0.heap.size (iv k2) sE (iv o2) (.bool f2) (iv n2) (.slice e1 es.length e2) (.slice e3 bs.length e4) (.slice e5 cs.length e6) (iv 0)):=by
  have af:lv'.ownBlock≠some w0.heap.size:=λ e=>by
   rcases aa _ e with e | e
   .have:=a7 _ e;omega
   .omega
  have a3:Since (λ j=>w1.heap.size<=j/\lv'.ownBlock≠some j) w2 (A6 w2 w0.heap.size (iv k2) sE (iv o2) (.bool f2) (iv n2) (.slice e1 es.length e2) (.slice e3 bs.length e4) (.slice e5 cs.length e6) (iv 0)):=⟨by rw[Bg];exact AD _,λ j hj _=>Ar (by omega) _ _ _ _ _ _ _ _ _ ⟩;have a4:∀{wx:World} j,(w1.heap.size<=j/\lv'.ownBlock≠some j)->j<wx.heap.size->(w.heap.size<=j/\lv'.ownBlock≠some j):=λ {wx} j hj _=>⟨by omega,hj.2⟩
  have ad:=Fm.set9 w2 w0.heap.size (iv k2) sE (iv o2) (.bool f2) (iv n2) (.slice e1 es.length e2) (.slice e3 bs.length e4) (.slice e5 cs.length e6) (iv 0);have ah:=Gr (k:=k2) (s:=o2) (n:=n2) (f:=f2) ((h1.since a3).base' a4) ((h2.since a3).base a4) ((h3.since a3).base' a4) ((h4.since a3).base a4) ((h5.since a3).base' a4) ((h6.since a3).base a4);have ag:=ab.fm ad (λ j hj=>by subst hj;exact⟨by omega,af⟩);have ai:Fm (Eo b mb lv) w (A6 w2 w0.heap.size (iv k2) sE (iv o2) (.bool f2) (iv n2) (.slice e1 es.length e2) (.slice e3 bs.length e4) (.slice e5 cs.length e6) (iv 0)):=((Fm.of_below (X:=λ _=>False) a6).trans a5 (λ _ _ h=>h.elim) (λ _ _ h=>h)).trans ad (λ _ _ h=>h) (λ j hj e=>by omega);have a9:∀j,lv'.ownBlock=some j->lv.ownBlock=some j\/w.heap.size<=j:=λ j hj=>(aa j hj).imp id (λ e=>by omega)
  exact⟨lv',_,rfl,ah,ag,ai,a9⟩
 clear h1 h2 h3 h4 h5 h6 a8 ab a5 aa hT a7;go_wp2_with fail;exact bodyPost_ret (by simp[results,results115,go_sem,ak,q0,q1,q2,q3,q4,q5,q6,q7,q8]) rfl a0
end
section
open Go.RowKit
open Ck (CE CS CF CP Mng)
theorem Ep{α β γ:Type}(r:Ck.R α)(f:α->Ck.R β)(g:β->Ck.R γ):Ck.bind (Ck.bind r f) g=Ck.bind r λ x=>Ck.bind (f x) g:=by cases r <;> rfl
theorem As2{α β:Type}(r:Ck.R α){f g:α->Ck.R β}(h:∀x,f x=g x):Ck.bind r f=Ck.bind r g:=by
 have:f=g:=funext h;rw[this]
theorem B0.of_set{cb nb:Nat}{lv nv:Value}{k:Ck.Kx}{env:Ck.Env}{ls names:List (List UInt8)}{R:Ck.R CS}{e:Ending}(h:CkS n0 b mb v0 ss fs k env ls lv w)(hs:Sc n0 b cb nb nv names w)(ha:Apart lv nv cb nb)(hP:Ax w R e w'):B0 n0 b mb cb nb v0 ss fs k env lv nv names w (Ck.bind R λ x=>.inl (x,env,ls)) e w':=by
 have a4:=(AB hs.cbk).1;have a3:=(AB hs.nbk).1;rcases R with x | ⟨a,er⟩
 .obtain⟨⟨cs,rfl,hi⟩,hb⟩:=hP;refine⟨lv,nv,[],cs,rfl,hi.base (λ j hj _=>?_),by simp,h.keep hb,?_,ha,BE hb,λ j hj=>AI hj,λ j hj=>AI hj⟩
  .have a0:w.heap.size<=j:=hj;exact⟨a0,λ e=>by have:=(h.loc.lt e).2;omega,λ e=>by have:=(hs.own.lt e).2;omega⟩
  .simp only[map_nil,append_nil];exact hs.keep (λ j hj=>hb.block j (by rcases hj with rfl | rfl | e;exact a4;exact a3;exact (hs.own.lt e).2))
 .exact⟨hP.1,BE hP.2⟩
theorem B0.of_lp{cb nb:Nat}{lv nv:Value}{k:Ck.Kx}{env:Ck.Env}{ls names:List (List UInt8)}{R:Ck.R Ck.St1}{e:Ending}(h:CkS n0 b mb v0 ss fs k env ls lv w)(hs:Sc n0 b cb nb nv names w)(ha:Apart lv nv cb nb)(hR:∀r,R=.inl r->r.2.1=env)(hP:C1 n0 b mb v0 ss fs k env lv w R e w'):B0 n0 b mb cb nb v0 ss fs k env lv nv names w R e w':=by
 have a5:=(AB hs.cbk).1;have a4:=(AB hs.nbk).1;have a8:=h.hb;have a7:=h.hm;have hT:∀j,(j=cb\/j=nb\/nv.ownBlock=some j)->¬Eo b mb lv j:=λ j hj e=>by
  have a6:n0<=j:=by
   rcases hj with rfl | rfl | e
   .exact hs.cn
   .exact hs.nn
   .exact (hs.own.lt e).1
  rcases e with e | e | e
  .omega
  .omega
  .rcases hj with rfl | rfl | e2
   .exact ha.c e
   .exact ha.n e
   .exact ha.v j e e2
 have a3:∀j,Eo b mb lv j->Jd b mb nb lv nv j:=λ j e=>by
  rcases e with e | e | e
  .exact AI e
  .exact AJ (AI e)
  .exact AJ (AJ (AJ (AI e)))
 rcases R with⟨x,env',ls'⟩ | ⟨a,er⟩
 .have he:env'=env:=hR _ rfl;subst he;obtain⟨lv',cs,rfl,hi,hC,hF,a0⟩:=hP;refine⟨lv',nv,[],cs,rfl,hi.base (λ j hj _=>⟨hj.1,hj.2,λ e=>by have:=(hs.own.lt e).2;have:=hj.1;omega⟩),by simp,hC,?_,⟨λ e=>?_,λ e=>?_,λ j hj e=>?_⟩,hF.mono (λ j _ e=>a3 j e),a0,λ j hj=>AI hj⟩
  .simp only[map_nil,append_nil];exact hs.keep (λ j hj=>hF.block j (by rcases hj with rfl | rfl | e;exact a5;exact a4;exact (hs.own.lt e).2) (hT j hj))
  .rcases a0 _ e with e | e
   .exact ha.c e
   .omega
  .rcases a0 _ e with e | e
   .exact ha.n e
   .omega
  .rcases a0 _ hj with e2 | e2
   .exact ha.v j e2 e
   .have:=(hs.own.lt e).2;omega
 .exact⟨hP.1,hP.2.mono (λ j _ e=>a3 j e)⟩
mutual
def ShS:Px.St->Prop
 | .mk k n es b c p=>((k=1/\es.length=1)\/(k=2/\(es.length=1\/es.length=2))\/(k=3/\es.length=1)\/(k=4/\es.length=1)\/(k=5/\es.length=1)\/(k=6/\es.length=1))/\Mu es/\Ik b/\Ik c
def Ik:List Px.St->Prop
 | []=>True
 | s :: r=>ShS s/\Ik r
end
structure Grow(k:Ck.Kx)(env:Ck.Env)(ls:List (List UInt8))(env':Ck.Env)(ls':List (List UInt8)):Prop where
 more:∃more,env'=env ++ more/\more.length+ls.length<=ls'.length/\∀y∈env,∀x∈more,y.1≠x.1
 len:ls'.length<=32
 ok:KOk k env'
theorem Grow.refl{k:Ck.Kx}{env:Ck.Env}{ls:List (List UInt8)}(h:KOk k env)(hl:ls.length<=32):Grow k env ls env ls:=⟨⟨[],by simp,by simp,by simp⟩,hl,h⟩
theorem Grow.up{k:Ck.Kx}{env env':Ck.Env}{ls ls':List (List UInt8)}(h:Grow k env ls env' ls'):ls.length<=ls'.length:=by
 obtain⟨m,-,h1,-⟩:=h.more;omega
theorem Grow.trans{k:Ck.Kx}{e1 e2 e3:Ck.Env}{l1 l2 l3:List (List UInt8)}(h:Grow k e1 l1 e2 l2)(g:Grow k e2 l2 e3 l3):Grow k e1 l1 e3 l3:=by
 obtain⟨m,rfl,h1,h2⟩:=h.more;obtain⟨m',rfl,g1,g2⟩:=g.more;refine⟨⟨m ++ m',by simp,by simp;omega,λ y hy x hx=>?_⟩,g.len,g.ok⟩;rcases mem_append.1 hx with hx | hx
 .exact h2 y hy x hx
 .exact g2 y (mem_append_left _ hy) x hx
theorem Grow.loc{k:Ck.Kx}{env:Ck.Env}{ls:List (List UInt8)}(ho:KOk k env){kind:Nat}{ty:AQ}(hk:kind≠0)(ht:ty.length<=1000){r:Ck.Env × List (List UInt8)}(h:Ck.loc env ls x p kind ty=.inl r):Grow k env ls r.1 r.2:=by
 have h1:=Lc h;obtain⟨h2,h3,h4⟩:=Tm ho.eok h;refine⟨⟨_,h1,by rw[h2];simp;omega,λ y hy x' hx'=>by simp at hx';subst hx';exact h4 y hy⟩,h3,?_⟩;rw[h1];exact ho.more x _ hk ht
theorem Er{c:Ck.Cx}{es:List Px.Ex}{x:Px.Ex}(h:es=[x]):Ck.arg (Ck.cEs c es) 0=(Ck.cE c x,Ck.plc x):=by
 subst h;exact Ck.arg_get c _ 0 x rfl
mutual
theorem Xs{k:Ck.Kx}:∀(s:Px.St) (env:Ck.Env) (ls:List (List UInt8)) (r:Ck.St1),KOk k env->ls.length<=32->ShS s->Ck.cS k env ls s=.inl r->Grow k env ls r.2.1 r.2.2
 | .mk kind n es body other p,env,ls,r,ho,hl,hsh,h=>by
  rw[ShS] at hsh;obtain⟨hk,-,hb,hc⟩:=hsh;rw[Ck.cS] at h;rcases hk with⟨rfl,h1⟩ | ⟨rfl,h1⟩ | ⟨rfl,h1⟩ | ⟨rfl,h1⟩ | ⟨rfl,h1⟩ | ⟨rfl,h1⟩
  .obtain⟨x,rfl⟩:=length_eq_one_iff.1 h1;simp only[if_true,Er rfl] at h;obtain⟨y,hy,h⟩:=An h;obtain⟨e,he,h⟩:=An h;cases h;exact Grow.loc ho (by decide) (Ig ho.cx x y hy) he
  .simp only[Nat.reduceEqDiff,if_false,if_true] at h;obtain⟨m,hm,h⟩:=An h;split at h
   .obtain⟨x,hx,h⟩:=An h;cases h;exact Grow.refl ho hl
   .obtain⟨_,-,h⟩:=An h;obtain⟨_,-,h⟩:=An h;obtain⟨_,-,h⟩:=An h;cases h;exact Grow.refl ho hl
  .simp only[Nat.reduceEqDiff,if_false,if_true] at h;obtain⟨_,-,h⟩:=An h;obtain⟨_,-,h⟩:=An h;obtain⟨_,-,h⟩:=An h;cases h;exact Grow.refl ho hl
  .simp only[Nat.reduceEqDiff,if_false,if_true] at h;obtain⟨_,-,h⟩:=An h;obtain⟨a,ha,h⟩:=An h;obtain⟨c,a0,h⟩:=An h;cases h;have g1:=Gt body env ls a ho hl hb ha;have g2:=Gt other env a.2.2 c ho g1.len hc a0;exact⟨⟨[],by simp,by have:=g1.up;have:=g2.up;simp;omega,by simp⟩,g2.len,ho⟩
  .simp only[Nat.reduceEqDiff,if_false,if_true] at h;obtain⟨_,-,h⟩:=An h;obtain⟨e,he,h⟩:=An h;obtain⟨a,ha,h⟩:=An h;cases h;have g0:=Grow.loc ho (by decide) (by simp[Ck.tInt]) he;have g1:=Gt body e.1 e.2 a g0.ok g0.len hb ha;exact⟨⟨[],by simp,by have:=g0.up;have:=g1.up;simp;omega,by simp⟩,g1.len,ho⟩
  .simp only[Nat.reduceEqDiff,if_false,if_true] at h;obtain⟨_,-,h⟩:=An h;cases h;exact Grow.refl ho hl
theorem Gt{k:Ck.Kx}:∀(l:List Px.St) (env:Ck.Env) (ls:List (List UInt8)) (r:List CS × Ck.Env × List (List UInt8)),KOk k env->ls.length<=32->Ik l->Ck.cSs k env ls l=.inl r->Grow k env ls r.2.1 r.2.2
 | [],env,ls,r,ho,hl,_,h=>by
  rw[Ck.cSs] at h;cases h;exact Grow.refl ho hl
 | s :: l,env,ls,r,ho,hl,hsh,h=>by
  rw[Ik] at hsh;rw[Ck.cSs] at h;obtain⟨a,ha,h⟩:=An h;obtain⟨c,hc,h⟩:=An h;cases h;have g1:=Xs s env ls a ho hl hsh.1 ha;exact g1.trans (Gt l a.2.1 a.2.2 c g1.ok g1.len hsh.2 hc)
end
end
section
open Go.RowKit
open Ck (CE CS CF CP Mng)
attribute [local go_sem ↓] Go.wp_at_zero Go.wp_at_succ
abbrev Kp(n:Nat)(lv:Value):Nat->Prop:=λ j=>n<=j/\lv.ownBlock≠some j
structure Stp(b mb:Nat)(lv:Value)(w:World)(lv':Value)(w':World):Prop where
 fm:Fm (Eo b mb lv) w w'
 lv:∀j,lv'.ownBlock=some j->lv.ownBlock=some j\/w.heap.size<=j
theorem Stp.refl(b mb:Nat)(lv:Value)(w:World):Stp b mb lv w lv w:=⟨Fm.refl _ _,λ j h=>AI h⟩
theorem Stp.of_below{lv:Value}(h:Below w.heap.size w w'):Stp b mb lv w lv w':=⟨BE h,λ j h=>AI h⟩
abbrev BG:=@Stp.of_below
theorem Stp.trans{lv a0 a3:Value}(h:Stp b mb lv w a0 w1)(k:Stp b mb a0 w1 a3 w2):Stp b mb lv w a3 w2:=
 ⟨h.fm.trans k.fm (λ _ _ e=>e) (λ j hj e=>by
  rcases e with e | e | e
  .exact AI e
  .exact AJ (AI e)
  .rcases h.lv j e with e | e
   .exact AJ (AJ e)
   .omega),λ j hj=>by
  rcases k.lv j hj with e | e
  .exact h.lv j e
  .exact AJ (by have:=h.fm.size;omega)⟩
theorem Stp.block{lv lv':Value}(h:Stp b mb lv w lv' w')(hj:j<w.heap.size)(h1:j≠b)(h2:j≠mb)(h3:lv.ownBlock≠some j):w'.heap[j]?=w.heap[j]?/\lv'.ownBlock≠some j:=
 ⟨h.fm.block j hj (by rintro (e | e | e);exact h1 e;exact h2 e;exact h3 e),λ e=>by
  rcases h.lv j e with e | e
  .exact h3 e
  .omega⟩
theorem Stp.since{n:Nat}{lv lv':Value}(h:Stp b mb lv w lv' w')(hb:b<n)(hm:mb<n):Since (Kp n lv) w w':=h.fm.since (λ j hj e=>by
 rcases e with e | e | e
 .have:=hj.1;omega
 .have:=hj.1;omega
 .exact hj.2 e)
theorem Stp.kp{n:Nat}{lv lv':Value}(h:Stp b mb lv w lv' w'):∀j,Kp n lv j->j<w.heap.size->Kp n lv' j:=λ j hj hl=>⟨hj.1,λ e=>by
 rcases h.lv j e with e | e
 .exact hj.2 e
 .omega⟩
theorem SlRow.stp{n:Nat}{lv lv':Value}{row:AR}(h:SlRow (Kp n lv) w sz v m row)(s:Stp b mb lv w lv' w')(hb:b<n)(hm:mb<n):SlRow (Kp n lv') w' sz v m row:=
 (h.base' (B':=λ j=>Kp n lv j/\Kp n lv' j) (λ j h1 h2=>⟨h1,s.kp j h1 h2⟩) |>.since ⟨(s.since hb hm).size,λ j h1 h2=>(s.since hb hm).block j h1.1 h2⟩).base' (λ j h1 _=>h1.2)
theorem Aw.stp{n:Nat}{lv lv':Value}{l:List CE}{row:AR}(h:Aw (Kp n lv) w l row)(s:Stp b mb lv w lv' w')(hb:b<n)(hm:mb<n):Aw (Kp n lv') w' l row:=
 (h.base (B':=λ j=>Kp n lv j/\Kp n lv' j) (λ j h1 h2=>⟨h1,s.kp j h1 h2⟩) |>.since ⟨(s.since hb hm).size,λ j h1 h2=>(s.since hb hm).block j h1.1 h2⟩).base (λ j h1 _=>h1.2)
theorem Au.stp{n:Nat}{lv lv':Value}{l:List CS}{row:AR}(h:Au (Kp n lv) w l row)(s:Stp b mb lv w lv' w')(hb:b<n)(hm:mb<n):Au (Kp n lv') w' l row:=
 (h.base (B':=λ j=>Kp n lv j/\Kp n lv' j) (λ j h1 h2=>⟨h1,s.kp j h1 h2⟩) |>.since ⟨(s.since hb hm).size,λ j h1 h2=>(s.since hb hm).block j h1.1 h2⟩).base (λ j h1 _=>h1.2)
theorem Ij.stp{k:Ck.Kx}{env:Ck.Env}{lv:Value}{xs:List CS}{e':Ck.Env}{ls':List (List UInt8)}{e:Ending}(h:Ij n0 b mb v0 ss fs k env lv w (.inl (xs,e',ls')) e w'):∃lv' a cap row,e=.returned (.slice a xs.length cap)/\SlRow (Kp w.heap.size lv') w' 9 (.slice a xs.length cap) xs.length row/\Au (Kp w.heap.size lv') w' xs row/\CkS n0 b mb v0 ss fs k env ls' lv' w'/\Stp b mb lv w lv' w':=by
 obtain⟨lv',a,cap,rfl,⟨row,h1,h2⟩,h3,h4,h5⟩:=h;exact⟨lv',a,cap,row,rfl,h1,h2,h3,h4,h5⟩
theorem B4{p:Prop}(h:p):Hid p:=h
theorem Kp.low{n m:Nat}{lv:Value}(h:n<=m):∀{wx:World} j,Kp m lv j->j<wx.heap.size->Kp n lv j:=λ {wx} j hj _=>⟨AP h hj.1,hj.2⟩
theorem Bb8{x:Px.Ex}(hE:EOk x){body other:List Px.St}(c9:Tj body)(bn:Tj other){n:AQ}{lv:Value}{k:Ck.Kx}{env:Ck.Env}{ls:List (List UInt8)}(h:CkS n0 b mb v0 ss fs k env ls lv w)(ho:KOk k env)(hl:ls.length<=32)(cd:∀a,Ck.cSs k env ls body=.inl a->a.2.2.length<=32){row bg bd:AR}(hr:SlRow (Old n0 b mb) w 8 s1 1 row)(ha:Ai (Old n0 b mb) w [x] row)(b2 b3:Option Addr)(d2 d3:Nat)(a7:SlRow (Old n0 b mb) w 9 (.slice b2 body.length d2) body.length bg)(a8:As (Old n0 b mb) w body bg)(ae:SlRow (Old n0 b mb) w 9 (.slice b3 other.length d3) other.length bd)(ah:As (Old n0 b mb) w other bd)(nt:Value) :
  AA 115 #[pt b 0,.agg (stA 4 n s1 (.slice b2 body.length d2) (.slice b3 other.length d3) p),nt] w λ e w'=>C1 n0 b mb v0 ss fs k env lv w (Ck.bind (Ck.asked (Ck.cE (k.at env) x,Ck.plc x) Ck.tBool) λ x=>Ck.bind (Ck.cSs k env ls body) λ a=>Ck.bind (Ck.cSs k env a.2.2 other) λ c=>.inl (CS.mk 4 0 false 0 [x] a.1 c.1,env,c.2.2)) e w':=by
 obtain⟨kk,Hk⟩:∃kk:Nat,Hid (4=kk):=⟨_,rfl⟩;have i1:((kk:Int) == 1)=false:=by rw[<-Hk.out];rfl
 have i2:((kk:Int) == 2)=false:=by rw[<-Hk.out];rfl
 have i3:((kk:Int) == 3)=false:=by rw[<-Hk.out];rfl
 have i4:((kk:Int) == 4)=true:=by rw[<-Hk.out];rfl
 have ch:Hid ((Ck.bind (Ck.asked (Ck.cE (k.at env) x,Ck.plc x) Ck.tBool) λ x=>Ck.bind (Ck.cSs k env ls body) λ a=>Ck.bind (Ck.cSs k env a.2.2 other) λ c=>.inl (CS.mk 4 0 false 0 [x] a.1 c.1,env,c.2.2))=(Ck.bind (Ck.asked (Ck.cE (k.at env) x,Ck.plc x) Ck.tBool) λ x=>Ck.bind (Ck.cSs k env ls body) λ a=>Ck.bind (Ck.cSs k env a.2.2 other) λ c=>.inl (CS.mk kk 0 false 0 [x] a.1 c.1,env,c.2.2):Ck.R Ck.St1)):=by rw[<-Hk.out];rfl
 rw[ch.out];have bs:Hid (stA 4 n s1 (.slice b2 body.length d2) (.slice b3 other.length d3) p=stA kk n s1 (.slice b2 body.length d2) (.slice b3 other.length d3) p):=by rw[<-Hk.out];rfl
 rw[bs.out];clear ch bs Hk;obtain⟨bl,c5⟩:∃bl,Hid (body.length=bl):=⟨_,rfl⟩;rw[c5.out] at a7;rw[c5.out];obtain⟨ol,c4⟩:∃ol,Hid (other.length=ol):=⟨_,rfl⟩;rw[c4.out] at ae;rw[c4.out];obtain⟨w0,w1,df,dc,l0,l1,d9,bj,dl,c6,ci⟩:=D9 w kk n s1 (.slice b2 bl d2) (.slice b3 ol d3) p;have ca:=hr.since (Since.of_below bj);have c7:=ha.since (Since.of_below bj);have h1:=h.keep bj;obtain⟨g,og,cap,ka,oa,na,ta,aa,pa,dt,cw,rfl,cq,hg,rfl,⟨u0,u1,u2,u3,u4,u5,u6,u7⟩,c3,cg⟩:=Bj (args:=[x]) ca c7 rfl;have hA:=Ca hE rfl h1.at ho.cx c3 cg Ck.tBool;obtain⟨dn,co,rfl,-,-⟩:=c3.val;obtain⟨d0,d1,dd,cv,d4,d5,d6,d7,d8,-⟩:=Aj c6;have dk:=h.hb;have da:=h.hm;have ds:=h.sz;have du:b<w.heap.size:=by omega
 have dm:mb<w.heap.size:=by omega
 obtain⟨R,HR⟩:∃R:Ck.R Ck.St1,Hid ((Ck.bind (Ck.asked (Ck.cE (k.at env) (.mk ka oa na ta aa pa),pa) Ck.tBool) λ x=>Ck.bind (Ck.cSs k env ls body) λ a=>Ck.bind (Ck.cSs k env a.2.2 other) λ c=>.inl (CS.mk kk 0 false 0 [x] a.1 c.1,env,c.2.2))=R):=⟨_,rfl⟩;show Calls _ _ _ _ λ e w'=>C1 n0 b mb v0 ss fs k env lv w (Ck.bind (Ck.asked (Ck.cE (k.at env) (.mk ka oa na ta aa pa),pa) Ck.tBool) λ x=>Ck.bind (Ck.cSs k env ls body) λ a=>Ck.bind (Ck.cSs k env a.2.2 other) λ c=>.inl (CS.mk kk 0 false 0 [x] a.1 c.1,env,c.2.2)) e w'
 rw[HR.out];generalize Ck.asked (Ck.cE (k.at env) (.mk ka oa na ta aa pa),pa) Ck.tBool=C at *;have i0:(0:Int)<1:=by omega
 have dv:([Px.Ex.mk ka oa na ta aa pa]:List Px.Ex).length=1:=rfl;have bk:∀j,lv.ownBlock=some j->n0<=j/\j<w.heap.size:=λ j hj=>h.loc.lt hj
 clear hr ha hE ca c7 h1 c3 cg;simp only[length_cons,length_nil,Nat.zero_add] at *;go_enter func115,ntmps115;go_wp2_with fail;refine hA.mono ?_;rintro e w2 hP;clear hA df dc;rcases C with⟨k2,o2,n2,t2,s2,y2,a0⟩ | ⟨a,er⟩
 rotate_left
 .obtain⟨hm,br⟩:=hP;obtain rfl:=hm;have a3:C1 n0 b mb v0 ss fs k env lv w R (.panicked (Ag a er)) w2:=by rw[<-HR.out];exact⟨rfl,BE (bj.trans (br.mono (by omega)))⟩
  exact⟨rfl,a3⟩
 obtain⟨sl2,row2,rfl,c1,cj,br⟩:=hP.inl;obtain⟨a2,c2,rfl,-,-⟩:=c1.val;have ct:=br.size;obtain⟨wz,w3,dr,dw,c0,cm,cr,cp,bc,bb⟩:=Cc w2 (iv k2) (iv o2) (iv n2) (strV t2) (iv s2) (strV y2) (.slice a2 a0.length c2) (iv 0);have lz:w2.heap.size<wz.heap.size:=by omega
 have l3:w2.heap.size<w3.heap.size:=by omega
 clear cm cr hP;obtain⟨z0,z1,z2,z3,z4,z5,z6,z7,f0,f1,f2,f3,f4,f5,f6,f7⟩:=Ac bb;have b5:Below w1.heap.size w1 w3:=br.trans (c0.mono ct);have bw:Below w.heap.size w w3:=bj.trans (b5.mono (by omega));have bx:Hid (R=Ck.bind (Ck.cSs k env ls body) λ a=>Ck.bind (Ck.cSs k env a.2.2 other) λ c=>.inl (CS.mk kk 0 false 0 [.mk k2 o2 n2 t2 s2 y2 a0] a.1 c.1,env,c.2.2)):=HR.out.symm;clear HR d0 d1 dd cv d4 d5 d6 d7 d8 u0 u1 u2 u3 u4 u5 u6 u7;have cy:=b5.size;have ce:=(b5.block _ (by omega)).trans c6;have cc:=(b5.block _ (by omega)).trans ci;have hS:∀lv' w',Stp b mb lv w3 lv' w'->(w'.heap[w.heap.size]?=some (.cells (stA kk n (sL g og 1 cap) (.slice b2 bl d2) (.slice b3 ol d3) p) 46 (0,0))/\w'.heap[w2.heap.size]?=some (.cells #[iv k2,iv o2,iv n2,strV t2,iv s2,strV y2,.slice a2 a0.length c2,iv 0] 48 (0,0))/\w.heap.size<w'.heap.size/\w2.heap.size<w'.heap.size):=λ lv' w' s=>⟨(s.block (by omega) (by omega) (by omega) (λ e=>by have:=(bk _ e).2;omega)).1.trans ce,(s.block l3 (by omega) (by omega) (λ e=>by have:=(bk _ e).2;omega)).1.trans bc,by have:=s.fm.size;omega,by have:=s.fm.size;omega⟩
 have bu:∀lv' w',Stp b mb lv w3 lv' w'->Since (Old n0 b mb) w w':=λ lv' w' s=>(Since.of_below bw).trans (s.fm.since (λ j hj e=>by
  rcases e with e | e | e
  .exact hj.2.1 e
  .exact hj.2.2 e
  .have:=(bk _ e).1;have:=hj.1;omega))
 have di:=h.keep bw;have am:∀lvx wx,Stp b mb lv w3 lvx wx->CkS n0 b mb v0 ss fs k env ls lvx wx->AA 77 #[pt b 0,.slice b2 bl d2] wx λ e w'=>Ij n0 b mb v0 ss fs k env lvx wx (Ck.cSs k env ls body) e w':=λ lvx wx s hc=>c9 n0 b mb v0 ss fs k env ls lvx (.slice b2 bl d2) bg wx hc ho hl (by rw[c5.out];exact a7.since (bu _ _ s)) (a8.since (bu _ _ s))
 have aq:∀lsx lvx wx,Stp b mb lv w3 lvx wx->lsx.length<=32->CkS n0 b mb v0 ss fs k env lsx lvx wx->AA 77 #[pt b 0,.slice b3 ol d3] wx λ e w'=>Ij n0 b mb v0 ss fs k env lvx wx (Ck.cSs k env lsx other) e w':=λ lsx lvx wx s hll hc=>bn n0 b mb v0 ss fs k env lsx lvx (.slice b3 ol d3) bd wx hc ho hll (by rw[c4.out];exact ae.since (bu _ _ s)) (ah.since (bu _ _ s))
 have bt:∀lvx wx,Stp b mb lv w3 lvx wx->SlRow (Kp w1.heap.size lvx) wx 8 (.slice a2 a0.length c2) a0.length row2/\Aw (Kp w1.heap.size lvx) wx a0 row2:=λ lvx wx s=>by
  have q1:∀j,From w1.heap.size j->j<w2.heap.size->Kp w1.heap.size lv j:=λ j h1 _=>⟨h1,λ e=>by have:=(bk _ e).2;have:w1.heap.size<=j:=h1;omega⟩
  exact⟨((c1.base' q1).since (Since.of_below c0)).stp s (by omega) (by omega),((cj.base q1).since (Since.of_below c0)).stp s (by omega) (by omega)⟩
 have aj:∀lv9 ls9 w9 ga gn gc xs ab ax ys ac av rb rc e9,Stp b mb lv w3 lv9 w9->CkS n0 b mb v0 ss fs k env ls9 lv9 w9->SlRow (Kp w3.heap.size lv9) w9 8 (sL ga 0 gn gc) 1 [iv k2,iv o2,iv n2,strV t2,iv s2,strV y2,.slice a2 a0.length c2,iv 0]->SlRow (Kp w3.heap.size lv9) w9 9 (.slice ab (List.length xs) ax) (List.length xs) rb->Au (Kp w3.heap.size lv9) w9 xs rb->SlRow (Kp w3.heap.size lv9) w9 9 (.slice ac (List.length ys) av) (List.length ys) rc->Au (Kp w3.heap.size lv9) w9 ys rc->R=.inl (CS.mk kk 0 false 0 [.mk k2 o2 n2 t2 s2 y2 a0] xs ys,e9,ls9) ->
   C1 n0 b mb v0 ss fs k env lv w R (.returned (.agg #[iv kk,sE,iv 0,.bool false,iv 0,sL ga 0 gn gc,.slice ab xs.length ax,.slice ac ys.length av,iv 0])) (A6 w9 w0.heap.size (iv kk) sE (iv 0) (.bool false) (iv 0) (sL ga 0 gn gc) (.slice ab xs.length ax) (.slice ac ys.length av) (iv 0)):=by
  intro lv9 ls9 w9 ga gn gc xs ab ax ys ac av rb rc e9 s hC hE9 hrb9 hab9 hrc9 hac9 hR;rw[hR];obtain⟨dh,db⟩:=bt _ _ s;have dx:=s.fm.size;have cf:=Fm.set9 w9 w0.heap.size (iv kk) sE (iv 0) (.bool false) (iv 0) (sL ga 0 gn gc) (.slice ab xs.length ax) (.slice ac ys.length av) (iv 0);have dj:lv9.ownBlock≠some w0.heap.size:=(s.block (j:=w0.heap.size) (by omega) (by omega) (by omega) (λ e=>by have:=(bk _ e).2;omega)).2;have bf:Since (Kp w1.heap.size lv9) w9 (A6 w9 w0.heap.size (iv kk) sE (iv 0) (.bool false) (iv 0) (sL ga 0 gn gc) (.slice ab xs.length ax) (.slice ac ys.length av) (iv 0)):=⟨by rw[Bg];exact AD _,λ j hj _=>Ar (by have:=hj.1;omega) _ _ _ _ _ _ _ _ _⟩;have lo:=@Kp.low w1.heap.size w3.heap.size lv9 (by omega);have be:=@Kp.low w.heap.size w1.heap.size lv9 (by omega);refine⟨lv9,_,rfl,?_,?_,?_,?_⟩
  .exact Gr ((((hE9.base' lo).since bf).base' be)) (Kz (De ((dh.since bf).base' be) ((db.since bf).base be))) (((hrb9.base' lo).since bf).base' be) (((hab9.base lo).since bf).base be) (((hrc9.base' lo).since bf).base' be) (((hac9.base lo).since bf).base be)
  .exact hC.fm cf (λ j hj=>by subst hj;exact⟨by omega,dj⟩)
  .exact ((Fm.of_below (X:=λ _=>False) bw).trans s.fm (λ _ _ h=>h.elim) (λ _ _ h=>h)).trans cf (λ _ _ h=>h) (λ j hj e=>by omega)
  .intro j hj;rcases s.lv j hj with e | e
   .exact AI e
   .exact AJ (by omega)
 have hz:∀lv' w',Stp b mb lv w3 lv' w'->w'.heap[w0.heap.size]?=some (.cells #[iv 0,sE,iv 0,.bool false,iv 0,sZ,sZ,sZ,iv 0] 46 (0,0)):=λ lv' w' s=>(s.block (by omega) (by omega) (by omega) (λ e=>by have:=(bk _ e).2;omega)).1.trans cc
 have ad:∀lvx wx wy a er,Stp b mb lv w3 lvx wx->Fm (Eo b mb lvx) wx wy->R=.inr (a,er)->C1 n0 b mb v0 ss fs k env lv w R (.panicked (Ag a er)) wy:=λ lvx wx wy a er s hF hR=>by
  rw[hR];exact⟨rfl,((Fm.of_below (X:=λ _=>False) bw).trans (s.trans ⟨hF,λ j h=>AI h⟩:Stp b mb lv w3 lvx wy).fm (λ _ _ h=>h.elim) (λ _ _ h=>h))⟩
 have bq:∀(wx:World),Below wx.heap.size wx (wx.alloc (.cells #[iv k2,iv o2,iv n2,strV t2,iv s2,strV y2,.slice a2 a0.length c2,iv 0] 48)):=λ wx=>(AF _ _).alloc (AD _) _
 have b0:∀(lvx:Value) (wx:World),(∀j,lvx.ownBlock=some j->j<wx.heap.size)->w3.heap.size<=wx.heap.size->SlRow (Kp w3.heap.size lvx) (wx.alloc (.cells #[iv k2,iv o2,iv n2,strV t2,iv s2,strV y2,.slice a2 a0.length c2,iv 0] 48)) 8 (sL wx.heap.size 0 1 1) 1 [iv k2,iv o2,iv n2,strV t2,iv s2,strV y2,.slice a2 a0.length c2,iv 0]:=λ lvx wx hlt hle=>(En (n:=wx.heap.size) (AD _)).base' (λ j hj _=>⟨by have:wx.heap.size<=j:=hj;omega,λ e=>by have:=hlt j e;have:wx.heap.size<=j:=hj;omega⟩)
 have cu:=Stp.refl b mb lv w3;have cz:b<n0/\mb<n0:=⟨dk,da⟩;have dq:n0<=w3.heap.size:=by omega
 clear c1 cj bc bb c6 ci ce cc a7 a8 ae ah c9 bn h bt bu br c0 d9 dl bj cp b5;generalize Ck.cSs k env ls body=D1 at *;go_wp2_with fail;have ar:∀lv' w',Stp b mb lv w3 lv' w'->(w'.cell? ⟨w.heap.size,0,none⟩=some (iv kk)/\w'.cell? ⟨w.heap.size,6,none⟩=some (.slice b2 bl d2)/\w'.cell? ⟨w.heap.size,7,none⟩=some (.slice b3 ol d3)/\w'.cell? ⟨w2.heap.size,0,none⟩=some (iv k2)/\w'.cell? ⟨w2.heap.size,1,none⟩=some (iv o2)/\w'.cell? ⟨w2.heap.size,2,none⟩=some (iv n2)/\w'.cell? ⟨w2.heap.size,3,none⟩=some (strV t2)/\w'.cell? ⟨w2.heap.size,4,none⟩=some (iv s2)/\w'.cell? ⟨w2.heap.size,5,none⟩=some (strV y2)/\w'.cell? ⟨w2.heap.size,6,none⟩=some (.slice a2 a0.length c2)/\w'.cell? ⟨w2.heap.size,7,none⟩=some (iv 0)):=λ lv' w' s=>by
  obtain⟨e1,e2,-,-⟩:=hS lv' w' s;obtain⟨g0,-,-,-,-,-,g6,g7,-⟩:=Aj e1;obtain⟨q0,q1,q2,q3,q4,q5,q6,q7,-⟩:=Ac e2;exact⟨g0,g6,g7,q0,q1,q2,q3,q4,q5,q6,q7⟩
 clear z0 z1 z2 z3 z4 z5 z6 z7 f0 f1 f2 f3 f4 f5 f6 f7 hS;have cl:∀lv',Stp b mb lv w3 lv' w3->Stp b mb lv w3 lv' w3.drew:=λ lv' s=>⟨⟨s.fm.os,s.fm.tape,s.fm.output,s.fm.size,s.fm.block⟩,s.lv⟩
 have ba:=cl lv cu;have bi:CkS n0 b mb v0 ss fs k env ls lv w3.drew:=di.keep (AF _ _).drew;refine Vv.wpE_begin (S:=λ w'=>w'.cell? ⟨w.heap.size,0,none⟩=some (iv kk)/\w'.cell? ⟨w.heap.size,6,none⟩=some (.slice b2 bl d2)/\w'.cell? ⟨w.heap.size,7,none⟩=some (.slice b3 ol d3)/\w'.cell? ⟨w2.heap.size,0,none⟩=some (iv k2)/\w'.cell? ⟨w2.heap.size,1,none⟩=some (iv o2)/\w'.cell? ⟨w2.heap.size,2,none⟩=some (iv n2)/\w'.cell? ⟨w2.heap.size,3,none⟩=some (strV t2)/\w'.cell? ⟨w2.heap.size,4,none⟩=some (iv s2)/\w'.cell? ⟨w2.heap.size,5,none⟩=some (strV y2)/\w'.cell? ⟨w2.heap.size,6,none⟩=some (.slice a2 a0.length c2)/\w'.cell? ⟨w2.heap.size,7,none⟩=some (iv 0)) (N:=λ j=>decide (j<12)) (by kernel_rfl) ?_;have b7:=ar lv w3.drew ba;replace ar:=B4 ar;replace aj:=B4 aj;replace hz:=B4 hz;replace ad:=B4 ad;replace am:=B4 am;replace aq:=B4 aq;replace b0:=B4 b0;replace bq:=B4 bq;clear cl;have de:w3.heap.size<=w3.drew.heap.size:=AD _;generalize w3.drew=wd at *;refine Aa 35 [1,12,13] 0 (pt w.heap.size 0) b7 ?_
 try simp only[aP]
 refine Aa 36 [12,13] 1 (iv kk) b7 ?_
 try simp only[aP]
 refine Aa 37 [3,12,13] 2 (.agg #[iv k2,iv o2,iv n2,strV t2,iv s2,strV y2,.slice a2 a0.length c2,iv 0]) b7 ?_
 try simp only[aP]
 refine Aa 39 [7,11,12,13] 4 (pt b 0) b7 ?_
 try simp only[aP]
 refine Aa 40 [6,7,11,12,13] 5 (pt w.heap.size 6) b7 ?_
 try simp only[aP]
 refine Aa 41 [7,11,12,13] 6 (.slice b2 bl d2) b7 ?_
 try simp only[aP]
 refine Aa 43 [11,12,13] 8 (pt b 0) b7 ?_
 try simp only[aP]
 refine Aa 44 [10,11,12,13] 9 (pt w.heap.size 7) b7 ?_
 try simp only[aP]
 refine Aa 45 [11,12,13] 10 (.slice b3 ol d3) b7 ?_
 try simp only[aP]
 refine Vv.wpE_two (i:=3) (j:=7) (by kernel_rfl) rfl rfl rfl rfl (λ K hK=>?_) (λ K hK=>?_)
 .obtain⟨wa,a9⟩:∃wa,wd.alloc (.cells #[iv k2,iv o2,iv n2,strV t2,iv s2,strV y2,.slice a2 a0.length c2,iv 0] 48)=wa:=⟨_,rfl⟩;go_simp
  try rw[a9]
  have ai:Below wd.heap.size wd wa:=by rw[<-a9];exact bq.out _
  have a4:=b0.out lv wd (λ j hj=>(bi.loc.lt hj).2) (by have:=ba.fm.size;omega);rw[a9] at a4;have ay:Stp b mb lv wd lv wa:=BG ai;have ak:=ba.trans ay;have aw:=bi.keep ai;refine hK _ _ (λ _=>ar.out lv wa ak) ?_;clear hK K
  try simp only[aP]
  refine Ah 7 λ K hK=>?_
  go_simp;refine (am.out lv wa ak aw).mono ?_;rintro e wb hP;rcases D1 with⟨xs,ex,b8⟩ | ⟨a,er⟩
  rotate_left
  .obtain⟨hm,hF⟩:=hP;obtain rfl:=hm;have a3:=ad.out lv wa wb a er ak hF (by rw[bx.out];rfl);exact⟨rfl,a3⟩
  obtain⟨af,ab,ax,rb,rfl,a7,a8,b4,sb⟩:=hP.stp;have al:=ak.trans sb;have bv:b8.length<=32:=cd _ rfl;have bh:Hid (R=Ck.bind (Ck.cSs k env b8 other) λ c=>.inl (CS.mk kk 0 false 0 [.mk k2 o2 n2 t2 s2 y2 a0] xs c.1,env,c.2.2)):=bx.out;have a7:=a7.base' (B':=Kp w3.heap.size af) (Kp.low (n:=w3.heap.size) (m:=wa.heap.size) (lv:=af) (by have:=ak.fm.size;omega));have a8:=a8.base (B':=Kp w3.heap.size af) (Kp.low (n:=w3.heap.size) (m:=wa.heap.size) (lv:=af) (by have:=ak.fm.size;omega));have ag:=B4 (aq.out b8 af);generalize Ck.cSs k env b8 other=D2 at *;have a5:=a4.stp sb (by omega) (by omega);refine hK _ _ (λ _=>ar.out af wb al) ?_;clear hK K
  try simp only[aP]
  refine Ah 11 λ K hK=>?_
  go_simp;refine (ag.out wb al bv b4).mono ?_;rintro e wc hP;rcases D2 with⟨ys,ey,b9⟩ | ⟨a,er⟩
  rotate_left
  .obtain⟨hm,hF⟩:=hP;obtain rfl:=hm;have a3:=ad.out af wb wc a er al hF (by rw[bh.out];rfl);exact⟨rfl,a3⟩
  obtain⟨a6,ac,av,rc,rfl,ae,ah,au,sc⟩:=hP.stp;have az:=al.trans sc;have ae:=ae.base' (B':=Kp w3.heap.size a6) (Kp.low (n:=w3.heap.size) (m:=wb.heap.size) (lv:=a6) (by have:=al.fm.size;omega));have ah:=ah.base (B':=Kp w3.heap.size a6) (Kp.low (n:=w3.heap.size) (m:=wb.heap.size) (lv:=a6) (by have:=al.fm.size;omega));have a7:=a7.stp sc (by omega) (by omega);have a8:=a8.stp sc (by omega) (by omega);have bo:R=.inl (CS.mk kk 0 false 0 [.mk k2 o2 n2 t2 s2 y2 a0] xs ys,env,b9):=bh.out;have a5:=a5.stp sc (by omega) (by omega);refine hK _ _ (λ _=>ar.out a6 wc az) ?_;clear hK K
  try simp only[aP]
  refine Ah 12 λ K hK=>?_
  go_simp;refine hK _ _ (λ h=>by cases h) ?_;clear hK K
  try simp only[aP]
  have b6:=hz.out a6 wc az;obtain⟨r0,r1,r2,r3,r4,r5,r6,r7,r8,t0,t1,c8,t3,t4,t5,t6,t7,t8⟩:=Aj b6;have bp:w0.heap.size<wc.heap.size:=(AB b6).1;have a3:=aj.out a6 b9 wc wd.heap.size 1 1 xs ab ax ys ac av rb rc env az au a5 a7 a8 ae ah bo;clear aj hz b6 ad ar a7 a8 ae ah a5;refine Ah 13 λ K hK=>?_
  go_simp;refine hK _ _ (λ h=>by cases h) ?_;clear hK K
  try simp only[aP]
  refine Vv.wpE_done (by kernel_rfl) ?_;simp only[Exit.inBlock,Exit.then];refine ‹∀(a:Act) (w:World),_->_› _ _ ?_;go_wp2_with fail;exact bodyPost_ret (by simp[results,results115,go_sem,bp,r0,r1,r2,r3,r4,r5,r6,r7,r8]) rfl a3
 .go_simp;refine (am.out lv wd ba bi).mono ?_;rintro e wb hP;rcases D1 with⟨xs,ex,b8⟩ | ⟨a,er⟩
  rotate_left
  .obtain⟨hm,hF⟩:=hP;obtain rfl:=hm;have a3:=ad.out lv wd wb a er ba hF (by rw[bx.out];rfl);exact⟨rfl,a3⟩
  obtain⟨af,ab,ax,rb,rfl,a7,a8,b4,sb⟩:=hP.stp;have al:=ba.trans sb;have bv:b8.length<=32:=cd _ rfl;have bh:Hid (R=Ck.bind (Ck.cSs k env b8 other) λ c=>.inl (CS.mk kk 0 false 0 [.mk k2 o2 n2 t2 s2 y2 a0] xs c.1,env,c.2.2)):=bx.out;have a7:=a7.base' (B':=Kp w3.heap.size af) (Kp.low (n:=w3.heap.size) (m:=wd.heap.size) (lv:=af) (by have:=ba.fm.size;omega));have a8:=a8.base (B':=Kp w3.heap.size af) (Kp.low (n:=w3.heap.size) (m:=wd.heap.size) (lv:=af) (by have:=ba.fm.size;omega));have ag:=B4 (aq.out b8 af);generalize Ck.cSs k env b8 other=D2 at *;refine hK _ _ (λ _=>ar.out af wb al) ?_;clear hK K
  try simp only[aP]
  refine Vv.wpE_two (i:=3) (j:=11) (by kernel_rfl) rfl rfl rfl rfl (λ K hK=>?_) (λ K hK=>?_)
  .obtain⟨wa,a9⟩:∃wa,wb.alloc (.cells #[iv k2,iv o2,iv n2,strV t2,iv s2,strV y2,.slice a2 a0.length c2,iv 0] 48)=wa:=⟨_,rfl⟩;go_simp
   try rw[a9]
   have ai:Below wb.heap.size wb wa:=by rw[<-a9];exact bq.out _
   have a4:=b0.out af wb (λ j hj=>(b4.loc.lt hj).2) (by have:=al.fm.size;omega);rw[a9] at a4;have ay:Stp b mb af wb af wa:=BG ai;have ak:=al.trans ay;have aw:=b4.keep ai;have a7:=a7.stp ay (by omega) (by omega);have a8:=a8.stp ay (by omega) (by omega);refine hK _ _ (λ _=>ar.out af wa ak) ?_;clear hK K
   try simp only[aP]
   refine Ah 11 λ K hK=>?_
   go_simp;refine (ag.out wa ak bv aw).mono ?_;rintro e wc hP;rcases D2 with⟨ys,ey,b9⟩ | ⟨a,er⟩
   rotate_left
   .obtain⟨hm,hF⟩:=hP;obtain rfl:=hm;have a3:=ad.out af wa wc a er ak hF (by rw[bh.out];rfl);exact⟨rfl,a3⟩
   obtain⟨a6,ac,av,rc,rfl,ae,ah,au,sc⟩:=hP.stp;have az:=ak.trans sc;have ae:=ae.base' (B':=Kp w3.heap.size a6) (Kp.low (n:=w3.heap.size) (m:=wa.heap.size) (lv:=a6) (by have:=ak.fm.size;omega));have ah:=ah.base (B':=Kp w3.heap.size a6) (Kp.low (n:=w3.heap.size) (m:=wa.heap.size) (lv:=a6) (by have:=ak.fm.size;omega));have a7:=a7.stp sc (by omega) (by omega);have a8:=a8.stp sc (by omega) (by omega);have bo:R=.inl (CS.mk kk 0 false 0 [.mk k2 o2 n2 t2 s2 y2 a0] xs ys,env,b9):=bh.out;have a5:=a4.stp sc (by omega) (by omega);refine hK _ _ (λ _=>ar.out a6 wc az) ?_;clear hK K
   try simp only[aP]
   refine Ah 12 λ K hK=>?_
   go_simp;refine hK _ _ (λ h=>by cases h) ?_;clear hK K
   try simp only[aP]
   have b6:=hz.out a6 wc az;obtain⟨r0,r1,r2,r3,r4,r5,r6,r7,r8,t0,t1,c8,t3,t4,t5,t6,t7,t8⟩:=Aj b6;have bp:w0.heap.size<wc.heap.size:=(AB b6).1;have a3:=aj.out a6 b9 wc wb.heap.size 1 1 xs ab ax ys ac av rb rc env az au a5 a7 a8 ae ah bo;clear aj hz b6 ad ar a7 a8 ae ah a5;refine Ah 13 λ K hK=>?_
   go_simp;refine hK _ _ (λ h=>by cases h) ?_;clear hK K
   try simp only[aP]
   refine Vv.wpE_done (by kernel_rfl) ?_;simp only[Exit.inBlock,Exit.then];refine ‹∀(a:Act) (w:World),_->_› _ _ ?_;go_wp2_with fail;exact bodyPost_ret (by simp[results,results115,go_sem,bp,r0,r1,r2,r3,r4,r5,r6,r7,r8]) rfl a3
  .go_simp;refine (ag.out wb al bv b4).mono ?_;rintro e wc hP;rcases D2 with⟨ys,ey,b9⟩ | ⟨a,er⟩
   rotate_left
   .obtain⟨hm,hF⟩:=hP;obtain rfl:=hm;have a3:=ad.out af wb wc a er al hF (by rw[bh.out];rfl);exact⟨rfl,a3⟩
   obtain⟨a6,ac,av,rc,rfl,ae,ah,au,sc⟩:=hP.stp;have az:=al.trans sc;have ae:=ae.base' (B':=Kp w3.heap.size a6) (Kp.low (n:=w3.heap.size) (m:=wb.heap.size) (lv:=a6) (by have:=al.fm.size;omega));have ah:=ah.base (B':=Kp w3.heap.size a6) (Kp.low (n:=w3.heap.size) (m:=wb.heap.size) (lv:=a6) (by have:=al.fm.size;omega));have a7:=a7.stp sc (by omega) (by omega);have a8:=a8.stp sc (by omega) (by omega);have bo:R=.inl (CS.mk kk 0 false 0 [.mk k2 o2 n2 t2 s2 y2 a0] xs ys,env,b9):=bh.out;refine hK _ _ (λ _=>ar.out a6 wc az) ?_;clear hK K
   try simp only[aP]
   refine Ah 3 λ K hK=>?_
   obtain⟨wa,a9⟩:∃wa,wc.alloc (.cells #[iv k2,iv o2,iv n2,strV t2,iv s2,strV y2,.slice a2 a0.length c2,iv 0] 48)=wa:=⟨_,rfl⟩;go_simp
   try rw[a9]
   have ai:Below wc.heap.size wc wa:=by rw[<-a9];exact bq.out _
   have a4:=b0.out a6 wc (λ j hj=>(au.loc.lt hj).2) (by have:=az.fm.size;omega);rw[a9] at a4;have ay:Stp b mb a6 wc a6 wa:=BG ai;have ak:=az.trans ay;have aw:=au.keep ai;have a5:=a4;have a7:=a7.stp ay (by omega) (by omega);have a8:=a8.stp ay (by omega) (by omega);have ae:=ae.stp ay (by omega) (by omega);have ah:=ah.stp ay (by omega) (by omega);refine hK _ _ (λ _=>ar.out a6 wa ak) ?_;clear hK K
   try simp only[aP]
   refine Ah 12 λ K hK=>?_
   go_simp;refine hK _ _ (λ h=>by cases h) ?_;clear hK K
   try simp only[aP]
   have b6:=hz.out a6 wa ak;obtain⟨r0,r1,r2,r3,r4,r5,r6,r7,r8,t0,t1,c8,t3,t4,t5,t6,t7,t8⟩:=Aj b6;have bp:w0.heap.size<wa.heap.size:=(AB b6).1;have a3:=aj.out a6 b9 wa wc.heap.size 1 1 xs ab ax ys ac av rb rc env ak aw a5 a7 a8 ae ah bo;clear aj hz b6 ad ar a7 a8 ae ah a5;refine Ah 13 λ K hK=>?_
   go_simp;refine hK _ _ (λ h=>by cases h) ?_;clear hK K
   try simp only[aP]
   refine Vv.wpE_done (by kernel_rfl) ?_;simp only[Exit.inBlock,Exit.then];refine ‹∀(a:Act) (w:World),_->_› _ _ ?_;go_wp2_with fail;exact bodyPost_ret (by simp[results,results115,go_sem,bp,r0,r1,r2,r3,r4,r5,r6,r7,r8]) rfl a3
end
end Go.Proofs.YtpckmjfabiallaaGreatDoor
