/- Texts of ours, joined. -/
import Derived.Test.YtpckmjfabiallaaGreatDoorH15
import Derived.Test.YtpckmjfabiallaaGreatDoorH19
set_option linter.unusedVariables false
set_option linter.unusedSimpArgs false
set_option maxRecDepth 100000
set_option maxHeartbeats 16000000
namespace Go.Proofs.YtpckmjfabiallaaGreatDoor
variable{v:Value}{w w':World}
open Tryz
section
open Go.RowKit
open Ck (CE CS CF CP)
theorem Au5{B:AS}{a:List CS}{ao:Option Addr}{cap:Nat}(h:Fb B w a (.slice ao a.length cap)){q:Nat}{x:CS}(hx:a[q]?=some x){wr:World}(hW:Below w.heap.size w wr) :
  ∃(g o k s n ec bc cc:Nat) (fl:Bool) (es:List CE) (b c:List CS) (ea ba ca:Option Addr),x=.mk k s fl n es b c/\ao=some ⟨g,o,none⟩/\g<wr.heap.size/\(wr.cell? ⟨g,o+q*9,none⟩=some (iv k)/\wr.cell? ⟨g,o+q*9+1,none⟩=some sE/\wr.cell? ⟨g,o+q*9+2,none⟩=some (iv s)/\wr.cell? ⟨g,o+q*9+3,none⟩=some (.bool fl)/\wr.cell? ⟨g,o+q*9+4,none⟩=some (iv n)/\wr.cell? ⟨g,o+q*9+5,none⟩=some (.slice ea es.length ec)/\wr.cell? ⟨g,o+q*9+6,none⟩=some (.slice ba b.length bc)/\wr.cell? ⟨g,o+q*9+7,none⟩=some (.slice ca c.length cc)/\wr.cell? ⟨g,o+q*9+8,none⟩=some (iv 0)) /\
   (∃row,SlRow B w 8 (.slice ea es.length ec) es.length row/\Aw B w es row)/\Fb B w b (.slice ba b.length bc)/\Fb B w c (.slice ca c.length cc):=by
 have hq:q<a.length:=(AK hx).1;obtain⟨row,hr,ha⟩:=h;obtain⟨cx,kx,rx⟩:=ha.get hx;obtain⟨g0,o0,c0,e0,_,_,_,a3,a0⟩:=hr.cells (by omega);simp only[Value.slice.injEq] at e0;obtain⟨rfl,_,rfl⟩:=e0;obtain⟨k,s,fl,n,es,b,c⟩:=x;rw[Co] at kx;obtain⟨s1,s2,s3,r1,r2,r3,rfl,h1,h2,h3,h4,h5,h6⟩:=kx;obtain⟨ea,ec,rfl,-⟩:=h1.slice;obtain⟨ba,bc,rfl,-⟩:=h3.slice;obtain⟨ca,cc,rfl,-⟩:=h5.slice;have f0:∀(j:Nat) (u:Value),j<9->([iv k,sE,iv s,.bool fl,iv n,.slice ea es.length ec,.slice ba b.length bc,.slice ca c.length cc,iv 0]:AR)[j]?=some u->wr.cell? ⟨g0,o0+q*9+j,none⟩=some u:=by
  intro j u hj hu;rw[Nat.add_assoc,hW.cell (p:=⟨g0,o0+(q*9+j),none⟩) a3];exact a0 _ _ (by rw[rx j hj];exact hu)
 exact⟨g0,o0,k,s,n,ec,bc,cc,fl,es,b,c,ea,ba,ca,rfl,rfl,by have:=hW.size;omega,⟨f0 0 _ (by omega) rfl,f0 1 _ (by omega) rfl,f0 2 _ (by omega) rfl,f0 3 _ (by omega) rfl,f0 4 _ (by omega) rfl,f0 5 _ (by omega) rfl,f0 6 _ (by omega) rfl,f0 7 _ (by omega) rfl,f0 8 _ (by omega) rfl⟩,⟨r1,h1,h2⟩,⟨r2,h3,h4⟩,⟨r3,h5,h6⟩⟩
theorem Lr{sts:List Lx.B}{hs:List Ck.Hd}{n:Nat}{ls:List Lx.B}:∀{l:List CS} {q:Nat} {x:CS},Ck.ClSs sts hs n ls l->l[q]?=some x->Ck.ClS sts hs n ls x
 | [],q,x,h,hx=>by simp at hx
 | e :: r,0,x,h,hx=>by
  rw[Ck.ClSs] at h;simp at hx;subst hx;exact h.1
 | e :: r,q+1,x,h,hx=>by
  rw[Ck.ClSs] at h;exact Lr h.2 (by simpa using hx)
theorem Fb.since{B:AS}(s:Since B w w'){l:List CS}(h:Fb B w l v):Fb B w' l v:=by
 obtain⟨row,h1,h2⟩:=h;exact⟨row,h1.since s,h2.since s⟩
theorem Al9(w:World)(a0 a1 a2:Value):∃w1,w.alloc (.cells #[a0,a1,a2] 26)=w1/\w.heap.size<w1.heap.size/\Below w.heap.size w w1/\w1.heap[w.heap.size]?=some (.cells #[a0,a1,a2] 26 (0,0)):=by
 obtain⟨w0,a3⟩:∃w0,w.alloc (.cells #[a0,a1,a2] 26)=w0:=⟨_,rfl⟩;refine⟨w0,a3,?_,?_,?_⟩ <;> rw[<-a3]
 .simp
 .exact (AF _ _).alloc (AD _) _
 .exact heap_new _ _
theorem L9(c:CP)(V:Int)(sa fa:Option Addr)(sn sc fn fc:Nat):∀(N:Nat) (l:List CS) (v:Value) (B:AS) (w:World) (n:Nat) (f:CF),E7 l<N->c.fns[n]?=some f->Gk B w c (.agg #[iv V,.slice sa sn sc,.slice fa fn fc])->Fb B w l v->Ck.ClSs (c.states.map Prod.snd) (c.fns.map Ck.chd) n f.locals l ->
  AA 15 #[.agg #[iv V,.slice sa sn sc,.slice fa fn fc],iv n,v] w λ r w'=>r=.returned (.bool true)/\Below w.heap.size w w':=by
 intro N;induction N with
 | zero=>intro l v B w n f hN;omega
 | succ N ih=>
  intro l v B w n f hN hf hp h1 ar;obtain⟨lo,ag,rfl,cr⟩:∃(lo:Option Addr) (ag:Nat),v=.slice lo l.length ag/\l.length<=9223372036854775807:=by
   obtain⟨row,hr,-⟩:=h1;obtain⟨a,b,e,-⟩:=hr.slice;exact⟨a,b,e,hr.n_le⟩
  obtain⟨-,b8,be,bt,bp,bj,ai⟩:=hp.at;have c9:n<fn:=by rw[be];exact (AK hf).1
  have cd:(n:Int)<(fn:Int):=by omega
  obtain⟨w1,ci,l0,b6,ax⟩:=Al9 w (iv V) (.slice sa sn sc) (.slice fa fn fc);have a8:∀(q:Nat) (wr:World),q<l.length->Below w.heap.size w wr->∃(g o k s nn ec bc cc en bn cn:Nat) (fl:Bool) (ea ba ca:Option Addr),lo=some ⟨g,o,none⟩/\g<wr.heap.size/\(wr.cell? ⟨g,o+q*9,none⟩=some (iv k)/\wr.cell? ⟨g,o+q*9+1,none⟩=some sE/\wr.cell? ⟨g,o+q*9+2,none⟩=some (iv s)/\wr.cell? ⟨g,o+q*9+3,none⟩=some (.bool fl)/\wr.cell? ⟨g,o+q*9+4,none⟩=some (iv nn)/\wr.cell? ⟨g,o+q*9+5,none⟩=some (.slice ea en ec)/\wr.cell? ⟨g,o+q*9+6,none⟩=some (.slice ba bn bc)/\wr.cell? ⟨g,o+q*9+7,none⟩=some (.slice ca cn cc)/\wr.cell? ⟨g,o+q*9+8,none⟩=some (iv 0)) /\
    en<=9223372036854775807/\(k=4\/k=6\/(fl=true/\s<sn)\/(fl=false/\s<f.locals.length)) /\
    (∀(j:Nat) (wj:World),j<en->Below w.heap.size w wj->∃(g o k' p' n' s' al ac:Nat) (t' ty:Lx.B) (aa:Option Addr),ea=some ⟨g,o,none⟩/\g<wj.heap.size/\(wj.cell? ⟨g,o+j*8,none⟩=some (iv k')/\wj.cell? ⟨g,o+j*8+1,none⟩=some (iv p')/\wj.cell? ⟨g,o+j*8+2,none⟩=some (iv n')/\wj.cell? ⟨g,o+j*8+3,none⟩=some (.string ⟨t'.toArray⟩)/\wj.cell? ⟨g,o+j*8+4,none⟩=some (iv s')/\wj.cell? ⟨g,o+j*8+5,none⟩=some (.string ⟨ty.toArray⟩)/\wj.cell? ⟨g,o+j*8+6,none⟩=some (.slice aa al ac)/\wj.cell? ⟨g,o+j*8+7,none⟩=some (iv 0)) /\
     ∀w',Below w.heap.size w w'->AA 32 #[.agg #[iv V,.slice sa sn sc,.slice fa fn fc],iv n,.agg #[iv k',iv p',iv n',.string ⟨t'.toArray⟩,iv s',.string ⟨ty.toArray⟩,.slice aa al ac,iv 0]] w' λ r w''=>r=.returned (.bool true)/\Below w'.heap.size w' w'') /\
    (∀w',Below w.heap.size w w'->AA 15 #[.agg #[iv V,.slice sa sn sc,.slice fa fn fc],iv n,.slice ba bn bc] w' λ r w''=>r=.returned (.bool true)/\Below w'.heap.size w' w'') /\
    (∀w',Below w.heap.size w w'->AA 15 #[.agg #[iv V,.slice sa sn sc,.slice fa fn fc],iv n,.slice ca cn cc] w' λ r w''=>r=.returned (.bool true)/\Below w'.heap.size w' w''):=by
   intro q wr hq hW;obtain⟨x,hx⟩:∃x,l[q]?=some x:=⟨l[q],AN hq⟩;obtain⟨g,o,k,s,nn,ec,bc,cc,fl,es,b,c',ea,ba,ca,rfl,e1,e2,e3,⟨row,e4,e5⟩,e6,e7⟩:=Au5 h1 hx hW;have bg:=Lr ar hx;rw[Ck.ClS] at bg;obtain⟨d1,d2,d3,d4⟩:=bg;have aw:=Jg hx;simp only[Ua] at aw;refine⟨g,o,k,s,nn,ec,bc,cc,es.length,b.length,c'.length,fl,ea,ba,ca,e1,e2,e3,e4.n_le,?_,?_,?_,?_⟩
   .rw[b8];simpa using d2
   .intro j wj hj hWj;obtain⟨y,hy⟩:∃y,es[j]?=some y:=⟨es[j],AN hj⟩;obtain⟨g,o,k',p',n',s',al,ac,t',aa,m1,m2,m3,ky⟩:=Af7 e4 e5 hy hWj;refine⟨g,o,k',p',n',s',al,ac,t',_,aa,m1,m2,m3,λ w' hW'=>?_⟩;exact Ui c V sa fa sn sc fn fc _ y _ B w' n f (Nat.lt_succ_self _) hf (hp.keep (Since.of_below hW')) (ky.since (Since.of_below hW')) (Uh d1 hy)
   .exact λ w' hW'=>ih b _ B w' n f (by omega) hf (hp.keep (Since.of_below hW')) (e6.since (Since.of_below hW')) d3
   .exact λ w' hW'=>ih c' _ B w' n f (by omega) hf (hp.keep (Since.of_below hW')) (e7.since (Since.of_below hW')) d4
  obtain⟨gf,b0,cl,ce,cf,ct,c3,c1,rfl,lf,⟨y0,y1,y2,y3,y4,y5,y6⟩,-,b7,-⟩:=ai n f hf;have co:f.locals.length<=9223372036854775807:=SlRow.n_le (show SlRow B w 1 _ f.locals.length _ from b7);generalize f.locals.length=ln at *;clear ih bj ai b7 hp hf b8 be ar h1 y0 y1 y2 y3 y5 y6;generalize l.length=ll at *;go_enter func15,ntmps15;go_wp2_with fail
  go_loopg [14] ll (λ g i wr=>∃q:Nat,q<=ll/\g=ll - q/\i=iv q/\Below w1.heap.size w1 wr)
  case atStart=>exact⟨0,AO _,rfl,rfl,AF _ _⟩
  case round=>
   obtain⟨q,hq,rfl,rfl,hB⟩:=hrel;have hW:Below w.heap.size w wr:=b6.trans (hB.mono (by omega));have aw:=hB.size;by_cases hlt:q<ll
   .obtain⟨g,o,k,s,nn,ec,bc,cc,en,bn,cn,fl,ea,ba,ca,rfl,lg,⟨x0,x1,x2,x3,x4,x5,x6,x7,x8⟩,cq,hk,b4,ay,b3⟩:=a8 q wr hlt hW;clear a8;have b5:(q:Int)<(ll:Int):=by omega
    obtain⟨wz,w4,bl,bk,bx,cj,bi,c2,a9,ab⟩:=G7 wr (iv k) sE (iv s) (.bool fl) (iv nn) (.slice ea en ec) (.slice ba bn bc) (.slice ca cn cc) (iv 0);have az:Below w1.heap.size w1 w4:=hB.trans (bx.mono hB.size);have br:=az.size;obtain⟨i0,i1,i2,i3,i4,i5,i6,i7,i8,j0,j1,j2,j3,j4,j5,j6,j7,j8⟩:=Ai ab;obtain⟨n0,n1,n2,n3,n4,n5,n6,n7,n8,-⟩:=Ai a9;have lz:wr.heap.size<wz.heap.size:=by omega
    have l4:wr.heap.size<w4.heap.size:=by omega
    have cp:w1.heap.size<=wr.heap.size:=aw;go_wp2_with fail;generalize wr.heap.size=b9 at *;clear i0 i1 i2 i3 i4 i5 i6 i7 i8 j0 j1 j2 j3 j4 j5 j6 j7 j8 n0 n1 n2 n3 n4 n5 n6 n7 n8 x0 x1 x2 x3 x4 x5 x6 x7 x8 bl bk
    go_loopg [21] en (λ g i wy=>∃q:Nat,q<=en/\g=en - q/\i=iv q/\Below w4.heap.size w4 wy)
    case atStart=>exact⟨0,AO _,rfl,rfl,AF _ _⟩
    case round=>
     obtain⟨q2,cg,rfl,rfl,hC⟩:=hrel;have c7:=hC.size;have au:Below w1.heap.size w1 wr:=az.trans (hC.mono az.size);have ae:Below w.heap.size w wr:=b6.trans (au.mono (by omega));obtain⟨z0,z1,z2,f0,f1,f2⟩:=Ar ((au.block _ l0).trans ax);obtain⟨n0,n1,n2,n3,n4,n5,n6,n7,n8,-⟩:=Ai ((hC.block _ l4).trans a9);have m0:w.heap.size<wr.heap.size:=by omega
     have m9:b9<wr.heap.size:=by omega
     by_cases hlt2:q2<en
     .obtain⟨g2,o2,k',p',n',s',al,ac,t',ty,aa,rfl,cm,⟨v0,v1,v2,v3,v4,v5,v6,v7⟩,ar⟩:=b4 q2 wr hlt2 ae;clear b4 ay b3;have ak:(q2:Int)<(en:Int):=by omega
      obtain⟨bh,w6,bv,c0,ad,c6,bu,bs,aj,af⟩:=Bs wr (iv k') (iv p') (iv n') (.string ⟨t'.toArray⟩) (iv s') (.string ⟨ty.toArray⟩) (.slice aa al ac) (iv 0);obtain⟨i0,i1,i2,i3,i4,i5,i6,i7,j0,j1,j2,j3,j4,j5,j6,j7⟩:=Ac af;obtain⟨a0,a1,a2,a3,a4,a5,a6,a7,-⟩:=Ac aj;have r0:=((bcell ad).1 w.heap.size 0 m0).trans z0;have r1:=((bcell ad).1 w.heap.size 1 m0).trans z1;have r2:=((bcell ad).1 w.heap.size 2 m0).trans z2;have bo:=ar w6 (ae.trans (ad.mono ae.size));have c4:wr.heap.size<bh.heap.size:=by omega
      have l6:wr.heap.size<w6.heap.size:=by omega
      have c5:w.heap.size<w6.heap.size:=by omega
      clear ar ax a9 ab;go_wp2_with fail;refine bo.mono ?_;rintro e w7 ⟨rfl,bw⟩;go_wp2_with fail;go_roundg (en - (q2+1))
      case measure=>omega
      case rel=>exact⟨q2+1,by omega,rfl,by go_num,hC.trans ((ad.trans (bw.mono ad.size)).mono hC.size)⟩
     .have ak:¬(q2:Int)<(en:Int):=by omega
      have Y4:=(ae.cell (p:=⟨gf,b0+n*7+4,none⟩) lf).trans y4;have ch:gf<wr.heap.size:=by have:=ae.size;omega
      have bb:=ay wr ae;clear b4 ay;have am:∀w5,Below wr.heap.size wr w5->w5.cell? ⟨w.heap.size,0,none⟩=some (iv V)/\w5.cell? ⟨w.heap.size,1,none⟩=some (.slice sa sn sc)/\w5.cell? ⟨w.heap.size,2,none⟩=some (sL gf b0 fn fc)/\w5.cell? ⟨b9,7,none⟩=some (.slice ca cn cc)/\w.heap.size<w5.heap.size/\b9<w5.heap.size:=λ w5 h5=>⟨((bcell h5).1 _ _ m0).trans z0,((bcell h5).1 _ _ m0).trans z1,((bcell h5).1 _ _ m0).trans z2,((bcell h5).1 _ _ m9).trans n7,by have:=h5.size;omega,by have:=h5.size;omega⟩
      have aq:∀w5,Below wr.heap.size wr w5->Below w1.heap.size w1 w5:=λ w5 h5=>au.trans (h5.mono au.size)
      have bf:∀b:Bool,b=fl->((((k:Int) != 4)=false)\/(((k:Int) != 4)=true/\((k:Int) != 6)=false)\/(((k:Int) != 4)=true/\((k:Int) != 6)=true/\((b=true/\¬(sn:Int)<=(s:Int))\/(b=false/\¬(ln:Int)<=(s:Int))))):=by
       rintro b rfl;by_cases e4:k=4
       .subst e4;exact AI (by decide)
       .have f4:((k:Int) != 4)=true:=by simp;omega
        by_cases e6:k=6
        .subst e6;exact AJ (AI ⟨by decide,by decide⟩)
        .have f6:((k:Int) != 6)=true:=by simp;omega
         refine AJ (AJ ⟨f4,f6,?_⟩);rcases hk with h | h | h | h
         .exact absurd h e4
         .exact absurd h e6
         .exact AI ⟨h.1,by omega⟩
         .exact AJ ⟨h.1,by omega⟩
      have ah:∀w5,Below wr.heap.size wr w5->AA 15 #[.agg #[iv V,.slice sa sn sc,sL gf b0 fn fc],iv n,.slice ca cn cc] w5 λ r w''=>r=.returned (.bool true)/\Below w5.heap.size w5 w'':=λ w5 h5=>b3 w5 (ae.trans (h5.mono ae.size))
      clear ax a9 ab b3 hk;have bq:=bf fl rfl;clear bf;cases fl
      all_goals
       (rcases bq with e4 | ⟨e4,e6⟩ | ⟨e4,e6,h | h⟩)
      all_goals first
       |(exact absurd h.1 (by decide))
       |(try obtain⟨-,h⟩:=h
         go_wp2_with fail
         refine bb.mono ?_;rintro e w5 ⟨rfl,av⟩;obtain⟨p0,p1,p2,p7,lp,c8⟩:=am w5 av;have hE:=ah w5 av;clear am ah bb;go_wp2_with fail;refine hE.mono ?_;rintro e w6 ⟨rfl,ad⟩;go_wp2_with fail;go_roundg (ll - (q+1))
         case measure=>omega
         case rel=>exact⟨q+1,by omega,rfl,by go_num,aq _ (av.trans (ad.mono av.size))⟩)
   .have b5:¬(q:Int)<(ll:Int):=by omega
    clear a8;go_wp2_with fail;go_ret;exact⟨rfl,hW⟩
end
end Go.Proofs.YtpckmjfabiallaaGreatDoor
