/- Texts of ours, joined. -/
import Derived.Test.YtpckmjfabiallaaGreatDoorG19
import Derived.Test.YtpckmjfabiallaaGreatDoorG17
set_option linter.unusedVariables false
set_option linter.unusedSimpArgs false
set_option maxRecDepth 100000
set_option maxHeartbeats 16000000
namespace Go.Proofs.YtpckmjfabiallaaGreatDoor
variable{b m:Nat}{cs:List Value}{v:Value}{w w' w1 w2:World}
open List
open Tryz
section
open Go.RowKit
mutual
def OkS:GS->Prop
 | .mk k n es b c=>n.length<=maxLen/\Sh es/\Ne b/\Ne c
def Ne:List GS->Prop
 | []=>True
 | s :: r=>OkS s/\Ne r
end
theorem Qc{base:Nat}{ss:List GS}(h:∀s∈ss,Af1 base b s):Mb base b ss:=by
 cases ss with
 | nil=>exact Uz
 | cons s r=>exact Yk (by simp) h
theorem Yy{k:Int}{n:AQ}{es:List GE}{x y:Option (List UInt8)}{z:Bool}(h1:es.length≠1)(h2:es.length≠2\/k≠2):gSK k n es x y z=none:=by
 unfold gSK;rw[if_pos (by omega)]
theorem U4{base:Nat}{k:Int}{n:AQ}{es:List GE}{bo el:List GS}(hn:n.length<=maxLen)(he:∀e∈es,Dp base b e)(hb:Mb base b bo)(hc:Mb base b el):Af1 base b (.mk k n es bo el):=by
 intro l tabs cs w hd hW hx;rw[gsD] at hd;rw[gSt];by_cases h1:es.length=1
 .match es,h1,he,hx with
  | [a],_,he,hx=>
   have a3:=he a (by simp);by_cases k1:k=1
   .subst k1;have:=Af3 hW hx hn a3;rw[show gSK 1 n [a] (gBlk (gSts bo (indT tabs)) (indT tabs) bo.isEmpty) (gBlk (gSts el (indT tabs)) (indT tabs) el.isEmpty) el.isEmpty=if gName n then (gE a).map λ x=>[108,101,116,32] ++ (n ++ ([32,61,32] ++ (x ++ [59]))) else none by
     cases hg:gName n <;> rcases hq:gE a with _ | x <;> simp[gSK,hg,hq]]
    exact this
   by_cases k2:k=2
   .subst k2;have:=Ym hW hx hn a3;rw[show gSK 2 n [a] (gBlk (gSts bo (indT tabs)) (indT tabs) bo.isEmpty) (gBlk (gSts el (indT tabs)) (indT tabs) el.isEmpty) el.isEmpty=if gName n then (gE a).map λ x=>[115,101,116,32] ++ (n ++ ([32,61,32] ++ (x ++ [59]))) else none by
     cases hg:gName n <;> rcases hq:gE a with _ | x <;> simp[gSK,hg,hq]]
    exact this
   by_cases k3:k=3
   .subst k3;have:=Af4 hW hx hn a3;rw[show gSK 3 n [a] (gBlk (gSts bo (indT tabs)) (indT tabs) bo.isEmpty) (gBlk (gSts el (indT tabs)) (indT tabs) el.isEmpty) el.isEmpty=if gName n then (gE a).map λ x=>[100,101,108,32] ++ (n ++ ([91] ++ (x ++ [93,59]))) else none by
     cases hg:gName n <;> rcases hq:gE a with _ | x <;> simp[gSK,hg,hq]]
    exact this
   by_cases k4:k=4
   .subst k4;by_cases hel:el.length=0
    .have a0:el=[]:=length_eq_zero_iff.1 hel;have:=Af5 hW hx a3 hb (by omega) (by omega);rw[show gSK 4 n [a] (gBlk (gSts bo (indT tabs)) (indT tabs) bo.isEmpty) (gBlk (gSts el (indT tabs)) (indT tabs) el.isEmpty) el.isEmpty=((gE a).bind λ x=>(gBlk (gSts bo (indT tabs)) (indT tabs) bo.isEmpty).map λ y=>x ++ ([32] ++ y)).map λ z=>[105,102,32] ++ z by
      rcases hq:gE a with _ | x <;> rcases gBlk (gSts bo (indT tabs)) (indT tabs) bo.isEmpty with _ | y <;> simp[gSK,hq,a0]]
     exact this
    .have a0:el.isEmpty=false:=by cases el with | nil=>simp at hel | cons _ _=>rfl
     have:=Af6 hW hx a3 hb (by omega) hc (by omega) (by omega);rw[show gSK 4 n [a] (gBlk (gSts bo (indT tabs)) (indT tabs) bo.isEmpty) (gBlk (gSts el (indT tabs)) (indT tabs) el.isEmpty) el.isEmpty=((gE a).bind λ x=>(gBlk (gSts bo (indT tabs)) (indT tabs) bo.isEmpty).map λ y=>x ++ ([32] ++ y)).bind λ z=>(gBlk (gSts el (indT tabs)) (indT tabs) el.isEmpty).map λ u=>[105,102,32] ++ (z ++ ([32,101,108,115,101,32] ++ u)) by
      rw[a0];rcases hq:gE a with _ | x <;> rcases gBlk (gSts bo (indT tabs)) (indT tabs) bo.isEmpty with _ | y <;> rcases gBlk (gSts el (indT tabs)) (indT tabs) false with _ | z <;> simp[gSK,hq]]
     exact this
   by_cases k5:k=5
   .subst k5;have:=Af7 hW hx hn a3 hb (by omega);rw[show gSK 5 n [a] (gBlk (gSts bo (indT tabs)) (indT tabs) bo.isEmpty) (gBlk (gSts el (indT tabs)) (indT tabs) el.isEmpty) el.isEmpty=if gName n then ((gE a).bind λ x=>(gBlk (gSts bo (indT tabs)) (indT tabs) bo.isEmpty).map λ y=>x ++ ([32] ++ y)).map λ z=>[102,111,114,32] ++ (n ++ ([32,116,111,32] ++ z)) else none by
     cases hg:gName n <;> rcases hq:gE a with _ | x <;> rcases gBlk (gSts bo (indT tabs)) (indT tabs) bo.isEmpty with _ | y <;> simp[gSK,hg,hq]]
    exact this
   by_cases k6:k=6
   .subst k6;have:=Af8 hW hx a3;rw[show gSK 6 n [a] (gBlk (gSts bo (indT tabs)) (indT tabs) bo.isEmpty) (gBlk (gSts el (indT tabs)) (indT tabs) el.isEmpty) el.isEmpty=(gE a).map λ x=>[114,101,116,32] ++ (x ++ [59]) by
     rcases hq:gE a with _ | x <;> simp[gSK,hq]]
    exact this
   have:=Yo hW hx ⟨k1,k2,k3,k4,k5,k6⟩;rw[show gSK k n [a] (gBlk (gSts bo (indT tabs)) (indT tabs) bo.isEmpty) (gBlk (gSts el (indT tabs)) (indT tabs) el.isEmpty) el.isEmpty=none by
    unfold gSK;rw[if_pos (by omega)]]
   exact this
 by_cases h2:es.length=2/\k=2
 .obtain⟨hl,rfl⟩:=h2
  match es,hl,he,hx with
  | [a,c],_,he,hx=>
   have:=Yn hW hx hn (he a (by simp)) (he c (by simp));rw[show gSK 2 n [a,c] (gBlk (gSts bo (indT tabs)) (indT tabs) bo.isEmpty) (gBlk (gSts el (indT tabs)) (indT tabs) el.isEmpty) el.isEmpty=if gName n then (gE a).bind λ x=>(gE c).map λ y=>[115,101,116,32] ++ (n ++ ([91] ++ (x ++ ([93,32,61,32] ++ (y ++ [59]))))) else none by
    cases hg:gName n <;> rcases hq:gE a with _ | x <;> rcases hq2:gE c with _ | y <;> simp[gSK,hg,hq,hq2]]
   exact this
 rw[Yy h1 (by omega)];exact U0 hW hx h1 (by omega)
mutual
theorem Bd0{base b:Nat}:∀s:GS,OkS s->Af1 base b s
 | .mk k n es bo el,h=>by
  rw[OkS] at h;exact U4 h.1 (Ag4 es h.2.1) (Qc (W9 bo h.2.2.1)) (Qc (W9 el h.2.2.2))
theorem W9{base b:Nat}:∀l:List GS,Ne l->∀s∈l,Af1 base b s
 | [],_,s,hs=>by simp at hs
 | a :: r,h,s,hs=>by
  rw[Ne] at h;have ha:=Bd0 (base:=base) (b:=b) a h.1;have hr:=W9 (base:=base) (b:=b) r h.2;rcases mem_cons.1 hs with rfl | hs
  .exact ha
  .exact hr s hs
end
theorem Ba9{base:Nat}(ss:List GS)(h:Ne ss):Mb base b ss:=Qc (W9 ss h)
theorem Fd{y:AQ}(h:gType y=true):y.length<=28:=by
 unfold gType at h;split at h
 .rename_i ht;obtain⟨c,hc⟩:=ht;have:∀{k:Nat} {y:AQ} {c:List Lx.Tok},Px.Ty k y c->y.length<=7*k:=by
   intro k y c h;induction h with
   | int=>simp;omega
   | bool=>simp;omega
   | text=>simp;omega
   | list _ ih=>simp at ih ⊢;omega
   | map ha _ ih=>rcases ha with rfl | rfl <;> (simp at ih ⊢;omega)
  have:=this hc;omega
 .cases h
theorem Ag5(n y:AQ):((⟨n.toArray⟩ ++ ⟨#[58,32]⟩ ++ ⟨y.toArray⟩:ByteArray))=⟨(n ++ ([58,32] ++ y)).toArray⟩:=by
 apply ByteArray.ext;simp[ByteArray.data_append]
abbrev Aq2(n y:AQ)(p:Int):Array Value:=#[.string ⟨n.toArray⟩,.string ⟨y.toArray⟩,iv p]
theorem Oe{base:Nat}{s:List UInt8 × List UInt8}{l:AQ}{tabs:Nat}(hW:Wr base b l tabs w)(hx:Se s cs)(h1:s.1.length<=maxLen)(h2:s.2.length<=maxLen) :
  AA 62 #[Bo b,.agg cs.toArray] w λ r w'=>WPost base b l tabs w (gSl s) r w':=by
 obtain⟨n,y⟩:=s;obtain⟨p,rfl⟩:=hx;simp only at h1 h2;have hE:=(BA hW).alloc (Aq2 n y p) 40 (by decide);have hN:=Dn n;have hY:=Jv y;clear hW;rcases hgn:gName n with _ | _
 .rw[hgn] at hN;rw[show gSl (n,y)=none by simp[gSl,hgn]];go_enter func62,ntmps62
  go_upto_region 1 with fail
  generalize w.alloc (.cells (Aq2 n y p) 40)=w2 at *;generalize w.heap.size=g0 at *;have l0:g0<w2.heap.size:=hE.lt (AC);obtain⟨x0,x1,x2,_⟩:=Af (hE.kept _ (AC))
  go_region_with (go_at_call 91;refine (hN _ h1).mono ?_;rintro e w3 ⟨rfl,rfl⟩;refine skip_way w2.drew ⟨rfl,rfl,l,tabs,hE.drew.wr,hE.drew.fw⟩ ?_)
  all_goals trivial
 rw[hgn] at hN;have a5:=Cp hgn;rcases hgy:gType y with _ | _
 .rw[hgy] at hY;rw[show gSl (n,y)=none by simp[gSl,hgy]];go_enter func62,ntmps62
  go_upto_region 1 with fail
  generalize w.alloc (.cells (Aq2 n y p) 40)=w2 at *;generalize w.heap.size=g0 at *;have l0:g0<w2.heap.size:=hE.lt (AC);obtain⟨x0,x1,x2,_⟩:=Af (hE.kept _ (AC))
  go_region_with (first
   |(go_at_call 91;refine (hN _ h1).mono ?_;rintro e w3 ⟨rfl,rfl⟩)
   |(go_at_call 92;refine (hY _ h2).mono ?_;rintro e w3 ⟨rfl,rfl⟩;refine skip_way w2.drew ⟨rfl,rfl,l,tabs,hE.drew.wr,hE.drew.fw⟩ ?_))
  all_goals trivial
 rw[hgy] at hY;have a4:=Fd hgy;rw[show gSl (n,y)=some (n ++ ([58,32] ++ y)) by simp[gSl,hgn,hgy]];go_enter func62,ntmps62
 go_upto_region 1 with fail
 generalize w.alloc (.cells (Aq2 n y p) 40)=w2 at *;generalize w.heap.size=g0 at *;have l0:g0<w2.heap.size:=hE.lt (AC);obtain⟨x0,x1,x2,_⟩:=Af (hE.kept _ (AC));have hP:=put_l hE.drew.wr (n ++ ([58,32] ++ y)) (by simp;omega);rw[<-Ag5] at hP
 go_region_with (first
  |(go_at_call 91;refine (hN _ h1).mono ?_;rintro e w3 ⟨rfl,rfl⟩)
  |(go_at_call 92;refine (hY _ h2).mono ?_;rintro e w3 ⟨rfl,rfl⟩)
  |(go_at_call 60;refine hP.mono ?_;rintro e w4 ⟨rfl,l4,a0,h4,a3⟩))
 all_goals
  go_wp2
  go_end0
  exact⟨rfl,l4,a0,h4,hE.fw.trans (AZ 1 a3)⟩
def OkL(s:List UInt8 × List UInt8):Prop:=s.1.length<=maxLen/\s.2.length<=maxLen
structure OkF(f:GF):Prop where
 name:f.name.length<=maxLen
 result:f.result.length<=maxLen
 params:∀s∈f.params,OkL s
 body:Ne f.body
 deep:0+1+Ei f.body<=1099511627776
noncomputable def fnT (wd:AQ) (nm:AQ) (ps:List (List UInt8 × List UInt8)) (rs:AQ) (bo:List GS):Option (List UInt8):=
 if gName nm then (allS (ps.map gSl)).bind λ xs=>if gType rs then (gBlk (gSts bo (indT 0)) (indT 0) bo.isEmpty).map λ y=>wd ++ (nm ++ ([40] ++ (commasS xs ++ ([41,58,32] ++ (rs ++ ([32] ++ y)))))) else none else none
theorem Ax0(f:GF):gFn f=(fnT (if f.on then [111,110,32] else [102,110,32]) f.name f.params f.result f.body).map λ x=>x ++ [10]:=by
 unfold gFn fnT;rw[Si];rcases hn:gName f.name with _ | _
 .simp
 rcases ht:gType f.result with _ | _
 .rcases allS (f.params.map gSl) with _ | xs <;> simp
 rcases allS (f.params.map gSl) with _ | xs
 .simp
 rcases hb:gBlk (gSts f.body []) [] f.body.isEmpty with _ | y
 .rw[show indT 0=[] from rfl,hb];simp
 .rw[show indT 0=[] from rfl,hb];simp
theorem Xa{base:Nat}{ps:List (List UInt8 × List UInt8)}{row:AR}{ao:Option Addr}{cap:Nat}(hr:SlRow (λ k=>k<base) w 3 (.slice ao ps.length cap) ps.length row)(ha:Ke ps row)(hF:FW base b w w'){q:Nat}{e:List UInt8 × List UInt8}(hq:ps[q]?=some e) :
  ∃(g o:Nat) (x y:ByteArray) (p:Int),ao=some ⟨g,o,none⟩/\g<w'.heap.size /\
   (w'.cell? ⟨g,o+q*3,none⟩=some (.string x)/\w'.cell? ⟨g,o+q*3+1,none⟩=some (.string y)/\w'.cell? ⟨g,o+q*3+2,none⟩=some (iv p)) /\
   Se e [.string x,.string y,iv p]:=by
 have a4:q<ps.length:=(AK hq).1;obtain⟨cx,kx,rx⟩:=ha.get hq;obtain⟨g,o,c,e0,_,_,a3,hg,hc⟩:=hr.cells (by omega);simp only[Value.slice.injEq] at e0;obtain⟨rfl,_,rfl⟩:=e0;have a0:=kx;obtain⟨p,rfl⟩:=kx;have f0:∀(j:Nat) (u:Value),j<3->([.string ⟨e.1.toArray⟩,.string ⟨e.2.toArray⟩,iv p]:AR)[j]?=some u->w'.cell? ⟨g,o+q*3+j,none⟩=some u:=by
  intro j u hj hu;rw[Nat.add_assoc,hF.below.cell (p:=⟨g,o+(q*3+j),none⟩) a3];exact hc _ _ (by rw[rx j hj];exact hu)
 exact⟨g,o,_,_,p,rfl,by have:=hF.size;omega,⟨f0 0 _ (by omega) rfl,f0 1 _ (by omega) rfl,f0 2 _ (by omega) rfl⟩,a0⟩
abbrev Ag6(cs:Array Value):Obj:=.cells cs 36 (0,0)
structure FnIn(base b g0:Nat)(cs:Array Value)(w w1:World):Prop where
 p:w1.heap[g0]?=some (Am b)
 x:w1.heap[g0+1]?=some (Ag6 cs)
 gt:b<g0
 fw:FW base b w w1
theorem FnIn.step{base g0:Nat}{cs:Array Value}(h:FnIn base b g0 cs w w1)(hf:FW base b w1 w2):FnIn base b g0 cs w w2:=by
 have hg:=h.gt;exact⟨hf.block h.p (by omega) (by decide),hf.block h.x (by omega) (by decide),hg,h.fw.trans hf⟩
abbrev Gk(nm:AQ)(on:Bool)(ps:Value)(rs:AQ)(bs:Value)(p:Int):Array Value:=#[.string ⟨nm.toArray⟩,.bool on,ps,.string ⟨rs.toArray⟩,sZ,bs,iv p]
theorem Kh{base g0:Nat}{nm:AQ}{on:Bool}{rs:AQ}{bs:Value}{p:Int}{ao:Option Addr}{cap:Nat}{ps:List (List UInt8 × List UInt8)}{row:AR}{tabs:Nat}(hr:SlRow (λ k=>k<base) w 3 (.slice ao ps.length cap) ps.length row)(ha:Ke ps row)(hO:∀s∈ps,OkL s)
  (i:Nat) (r:Option (List UInt8)) (l:AQ) (w1:World) (hi:(ps.map gSl)[i]?=some r) (hW:Wr base b l tabs w1) (hI:FnIn base b g0 (Gk nm on (.slice ao ps.length cap) rs bs p) w w1) :
  AA 94 (#[iv i] ++ #[pt g0 0,pt (g0+1) 0]) w1 λ e w2=>WPost base b l tabs w1 r e w2:=by
 rw[List.getElem?_map] at hi;rcases he:ps[i]? with _ | e
 .rw[he] at hi;cases hi
 rw[he,Option.map_some,Option.some.injEq] at hi;have a0:e∈ps:=mem_of_getElem? he;have a8:i<ps.length:=(AK he).1;obtain⟨_,_,-,hm⟩:=hr.slice;unfold maxLen at hm;obtain⟨g,o',x,y,pp,rfl,hg,⟨e0,e1,e2⟩,a5⟩:=Xa hr ha hI.fw he;have hC:=Oe hW.drew a5 (hO e a0).1 (hO e a0).2;rw[hi] at hC;have l0:g0<w1.heap.size:=(AB hI.p).1;have l1:g0+1<w1.heap.size:=(AB hI.x).1;have c0:=cell_of_one hI.p;obtain⟨x0,x1,x2,x3,x4,x5,x6,_⟩:=Bd hI.x;have a7:(i:Int)<(ps.length:Int):=by omega
 clear hr ha a5 hI he hi hO;show AA 94 #[iv i,pt g0 0,pt (g0+1) 0] w1 _;go_enter func94,ntmps94
 go_upto_region 0 with fail
 rcases r with _ | z
 .go_region_with (go_at_call 62;refine hC.mono ?_;rintro e w5 ⟨rfl,l5,a3,h5,a4⟩;refine skip_way w5 ⟨rfl,rfl,l5,a3,h5,AZ 1 a4⟩ ?_)
  all_goals trivial
 .go_region_with (go_at_call 62;refine hC.mono ?_;rintro e w5 ⟨rfl,l5,a6,h5,a4⟩)
  all_goals
   go_wp2
   go_end0
   exact⟨rfl,l5,a6,h5,AZ 1 a4⟩
theorem At4(args:Array Value)(w:World):(callFunc 94 args).run prog w=.ok (.enter 94 args) w:=enters_of func94 (by kernel_rfl) rfl args w
abbrev fks(b g0:Nat)(cs:Array Value):List (Nat × Obj):=[(g0+1,Ag6 cs),(g0,Am b)]
theorem In.fboxes{base:Nat}{l:AQ}{tabs:Nat}(h:Wr base b l tabs w)(cs:Array Value):In base b (fks b w.heap.size cs) l tabs w ((w.alloc (Am b)).alloc (Ag6 cs)):=by
 have:=((BA h).alloc #[Bo b] 108 (by decide)).alloc cs 36 (by decide);simpa [fks] using this
theorem Xb(y:AQ):((⟨#[58,32]⟩ ++ ⟨y.toArray⟩ ++ ⟨#[32]⟩:ByteArray))=⟨([58,32] ++ (y ++ [32])).toArray⟩:=by
 apply ByteArray.ext;simp[ByteArray.data_append]
theorem Ax1{base:Nat}{nm rs:AQ}{ps:List (List UInt8 × List UInt8)}{bo:List GS}{l:AQ}(hW:Wr base b l 0 w)(hx:Hj (λ k=>k<base) w ⟨nm,false,ps,rs,bo⟩ cs)(hO:OkF ⟨nm,false,ps,rs,bo⟩) :
  AA 63 #[Bo b,.agg cs.toArray] w λ r w'=>WPost base b l 0 w (fnT [102,110,32] nm ps rs bo) r w':=by
 obtain⟨res,a0⟩:∃res:Option (List UInt8),Aside (res=fnT [102,110,32] nm ps rs bo):=⟨_,show _=_ from rfl⟩;rw[<-a0.out];unfold fnT at a0;obtain⟨pv,bv,p,rfl,⟨ax,ab,ad⟩,⟨row2,aa,ai⟩⟩:=hx;simp only at ab ad aa ai;obtain⟨a1,q1,rfl,au⟩:=ab.slice;obtain⟨a2,q2,rfl,av⟩:=aa.slice;obtain⟨ah,aj,ag,al,ak⟩:=hO;simp only at ah aj ag al ak;have ar:=hW.lt;have aq:∀w',FW base b w w'->B7 (λ k=>k<base) w' bo (.slice a2 bo.length q2):=λ w' hF=>⟨row2,aa.since hF.since,ai.since hF.since⟩
 have hB:=Ba9 (base:=base) (b:=b) bo al;have hE:=In.fboxes hW (Gk nm false (.slice a1 ps.length q1) rs (.slice a2 bo.length q2) p);have hN:=Dn nm;have hY:=Jv rs;have ay:∀(fn:Fn) (first cap:Array Value) (w:World),(Instr.makeFunc fn first cap).run prog w=.ok (.func fn first cap) w:=λ _ _ _ _=>rfl
 clear aa ai av hW;unfold maxLen at au;go_enter func63,ntmps63
 go_upto_region 4 with fail
 generalize ((w.alloc (Am b)).alloc (Ag6 (Gk nm false (.slice a1 ps.length q1) rs (.slice a2 bo.length q2) p)))=w2 at *;generalize w.heap.size=g0 at *;have l0:g0<w2.heap.size:=hE.lt (q:=(g0,Am b)) (by simp);have l1:g0+1<w2.heap.size:=hE.lt (AC);have c0:=cell_of_one (hE.kept (g0,Am b) (by simp));obtain⟨x0,x1,x2,x3,x4,x5,x6,_⟩:=Bd (hE.kept _ (AC));rcases hgn:gName nm with _ | _
 .rw[hgn] at hN
  go_region_with (go_at_call 91;refine (hN _ ah).mono ?_;rintro e w3 ⟨rfl,rfl⟩;refine skip_way w2.drew ⟨rfl,(show WPost base b l 0 w res _ _ by rw[a0.out,hgn];exact⟨rfl,l,0,hE.drew.wr,hE.drew.fw⟩)⟩ ?_)
  all_goals trivial
 rw[hgn] at hN;have b0:=Cp hgn;have hP:=put_l hE.drew.wr ([102,110,32] ++ nm) (by simp;omega);rw[<-So] at hP
 go_cut [] from 7 to 13 (λ wc=>∃l3,Bt l ([102,110,32] ++ nm) l3/\In base b (fks b g0 (Gk nm false (.slice a1 ps.length q1) rs (.slice a2 bo.length q2) p)) l3 0 w wc)
 case first=>
  go_region_with (first
   |(go_at_call 91;refine (hN _ ah).mono ?_;rintro e w3 ⟨rfl,rfl⟩)
   |(go_at_call 60;refine hP.mono ?_;rintro e w4 ⟨rfl,l4,af,h4,a8⟩))
  all_goals (go_wp2_with fail;go_meet;exact⟨l4,af,hE.step h4 (AZ 1 a8)⟩)
 case rest=>
  clear l0 l1 c0 x0 x1 x2 x3 x4 x5 x6 hN hP hE;obtain⟨l3,am,a3⟩:=hcut;have l0:g0<wc.heap.size:=a3.lt (q:=(g0,Am b)) (by simp);have l1:g0+1<wc.heap.size:=a3.lt (AC);have c0:=cell_of_one (a3.kept (g0,Am b) (by simp));obtain⟨x0,x1,x2,x3,x4,x5,x6,_⟩:=Bd (a3.kept _ (AC));have hC:=Gj (K:=94) (caps:=#[pt g0 0,pt (g0+1) 0]) (xs:=ps.map gSl) (Inv:=FnIn base b g0 (Gk nm false (.slice a1 ps.length q1) rs (.slice a2 bo.length q2) p) w) a3.wr (by simp;omega) At4 (Kh ab ad ag) (λ _ _ h hf=>h.step hf) ⟨a3.kept (g0,Am b) (by simp),a3.kept _ (AC),ar,a3.fw⟩;rw[length_map] at hC;clear ab ad ag;go_wp2_with fail;refine hC.mono ?_;rcases hqa:allS (ps.map gSl) with _ | zs
  .rintro e w4 ⟨rfl,l4,a9,h4,a8⟩;refine⟨rfl,?_⟩;rw[a0.out,hgn,if_pos rfl,hqa];exact⟨rfl,l4,a9,h4,a3.fw.trans a8⟩
  rintro e w4 ⟨rfl,l4,af,h4,a8⟩;have a5:=a3.step h4 a8;clear l0 l1 c0 x0 x1 x2 x3 x4 x5 x6 hC;have l0:g0<w4.heap.size:=a5.lt (q:=(g0,Am b)) (by simp);have l1:g0+1<w4.heap.size:=a5.lt (AC);have c0:=cell_of_one (a5.kept (g0,Am b) (by simp));obtain⟨x0,x1,x2,x3,x4,x5,x6,_⟩:=Bd (a5.kept _ (AC))
  go_upto_region 6 with fail
  rcases hgy:gType rs with _ | _
  .rw[hgy] at hY
   go_region_with (go_at_call 92;refine (hY _ aj).mono ?_;rintro e w5 ⟨rfl,rfl⟩;refine skip_way w4.drew ⟨rfl,(show WPost base b l 0 w res _ _ by rw[a0.out,hgn,if_pos rfl,hqa,hgy];exact⟨rfl,l4,0,a5.drew.wr,a5.drew.fw⟩)⟩ ?_)
   all_goals trivial
  rw[hgy] at hY;have az:=Fd hgy;have hP:=put_l a5.drew.wr ([58,32] ++ (rs ++ [32])) (by simp;omega);rw[<-Xb] at hP
  go_cut [] from 20 to 26 (λ wc=>∃l5,Bt l4 ([58,32] ++ (rs ++ [32])) l5/\In base b (fks b g0 (Gk nm false (.slice a1 ps.length q1) rs (.slice a2 bo.length q2) p)) l5 0 w wc)
  case first=>
   go_region_with (first
    |(go_at_call 92;refine (hY _ aj).mono ?_;rintro e w5 ⟨rfl,rfl⟩)
    |(go_at_call 60;refine hP.mono ?_;rintro e w6 ⟨rfl,l6,ae,h6,a6⟩))
   all_goals (go_wp2_with fail;go_meet;exact⟨l6,ae,a5.step h6 (AZ 1 a6)⟩)
  case rest=>
   clear l0 l1 c0 x0 x1 x2 x3 x4 x5 x6 hY hP;obtain⟨l5,aw,a4⟩:=hcut;have l0:g0<wc.heap.size:=a4.lt (q:=(g0,Am b)) (by simp);have l1:g0+1<wc.heap.size:=a4.lt (AC);have c0:=cell_of_one (a4.kept (g0,Am b) (by simp));obtain⟨x0,x1,x2,x3,x4,x5,x6,_⟩:=Bd (a4.kept _ (AC));have hC:=hB l5 0 _ wc ak a4.wr (aq wc a4.fw);go_wp2_with fail;refine hC.mono ?_;rcases hqb:gBlk (gSts bo (indT 0)) (indT 0) bo.isEmpty with _ | y
   .rintro e w6 ⟨rfl,l6,a7,h6,a6⟩;refine⟨rfl,?_⟩;rw[a0.out,hgn,if_pos rfl,hqa,Option.bind_some,hgy,if_pos rfl,hqb];exact⟨rfl,l6,a7,h6,a4.fw.trans a6⟩
   .rintro e w6 ⟨rfl,l6,ae,h6,a6⟩;go_wp2
    go_end0
    rw[a0.out,hgn,if_pos rfl,hqa,Option.bind_some,hgy,if_pos rfl,hqb];exact⟨rfl,l6,by simpa using ((am.trans af).trans aw).trans ae,h6,a4.fw.trans a6⟩
theorem Bb0{base:Nat}{nm rs:AQ}{ps:List (List UInt8 × List UInt8)}{bo:List GS}{l:AQ}(hW:Wr base b l 0 w)(hx:Hj (λ k=>k<base) w ⟨nm,true,ps,rs,bo⟩ cs)(hO:OkF ⟨nm,true,ps,rs,bo⟩) :
  AA 63 #[Bo b,.agg cs.toArray] w λ r w'=>WPost base b l 0 w (fnT [111,110,32] nm ps rs bo) r w':=by
 obtain⟨res,a0⟩:∃res:Option (List UInt8),Aside (res=fnT [111,110,32] nm ps rs bo):=⟨_,show _=_ from rfl⟩;rw[<-a0.out];unfold fnT at a0;obtain⟨pv,bv,p,rfl,⟨ax,ab,ad⟩,⟨row2,aa,ai⟩⟩:=hx;simp only at ab ad aa ai;obtain⟨a1,q1,rfl,au⟩:=ab.slice;obtain⟨a2,q2,rfl,av⟩:=aa.slice;obtain⟨ah,aj,ag,al,ak⟩:=hO;simp only at ah aj ag al ak;have ar:=hW.lt;have aq:∀w',FW base b w w'->B7 (λ k=>k<base) w' bo (.slice a2 bo.length q2):=λ w' hF=>⟨row2,aa.since hF.since,ai.since hF.since⟩
 have hB:=Ba9 (base:=base) (b:=b) bo al;have hE:=In.fboxes hW (Gk nm true (.slice a1 ps.length q1) rs (.slice a2 bo.length q2) p);have hN:=Dn nm;have hY:=Jv rs;have ay:∀(fn:Fn) (first cap:Array Value) (w:World),(Instr.makeFunc fn first cap).run prog w=.ok (.func fn first cap) w:=λ _ _ _ _=>rfl
 clear aa ai av hW;unfold maxLen at au;go_enter func63,ntmps63
 go_upto_region 4 with fail
 generalize ((w.alloc (Am b)).alloc (Ag6 (Gk nm true (.slice a1 ps.length q1) rs (.slice a2 bo.length q2) p)))=w2 at *;generalize w.heap.size=g0 at *;have l0:g0<w2.heap.size:=hE.lt (q:=(g0,Am b)) (by simp);have l1:g0+1<w2.heap.size:=hE.lt (AC);have c0:=cell_of_one (hE.kept (g0,Am b) (by simp));obtain⟨x0,x1,x2,x3,x4,x5,x6,_⟩:=Bd (hE.kept _ (AC));rcases hgn:gName nm with _ | _
 .rw[hgn] at hN
  go_region_with (go_at_call 91;refine (hN _ ah).mono ?_;rintro e w3 ⟨rfl,rfl⟩;refine skip_way w2.drew ⟨rfl,(show WPost base b l 0 w res _ _ by rw[a0.out,hgn];exact⟨rfl,l,0,hE.drew.wr,hE.drew.fw⟩)⟩ ?_)
  all_goals trivial
 rw[hgn] at hN;have b0:=Cp hgn;have hP:=put_l hE.drew.wr ([111,110,32] ++ nm) (by simp;omega);rw[<-So] at hP
 go_cut [] from 7 to 13 (λ wc=>∃l3,Bt l ([111,110,32] ++ nm) l3/\In base b (fks b g0 (Gk nm true (.slice a1 ps.length q1) rs (.slice a2 bo.length q2) p)) l3 0 w wc)
 case first=>
  go_region_with (first
   |(go_at_call 91;refine (hN _ ah).mono ?_;rintro e w3 ⟨rfl,rfl⟩)
   |(go_at_call 60;refine hP.mono ?_;rintro e w4 ⟨rfl,l4,af,h4,a8⟩))
  all_goals (go_wp2_with fail;go_meet;exact⟨l4,af,hE.step h4 (AZ 1 a8)⟩)
 case rest=>
  clear l0 l1 c0 x0 x1 x2 x3 x4 x5 x6 hN hP hE;obtain⟨l3,am,a3⟩:=hcut;have l0:g0<wc.heap.size:=a3.lt (q:=(g0,Am b)) (by simp);have l1:g0+1<wc.heap.size:=a3.lt (AC);have c0:=cell_of_one (a3.kept (g0,Am b) (by simp));obtain⟨x0,x1,x2,x3,x4,x5,x6,_⟩:=Bd (a3.kept _ (AC));have hC:=Gj (K:=94) (caps:=#[pt g0 0,pt (g0+1) 0]) (xs:=ps.map gSl) (Inv:=FnIn base b g0 (Gk nm true (.slice a1 ps.length q1) rs (.slice a2 bo.length q2) p) w) a3.wr (by simp;omega) At4 (Kh ab ad ag) (λ _ _ h hf=>h.step hf) ⟨a3.kept (g0,Am b) (by simp),a3.kept _ (AC),ar,a3.fw⟩;rw[length_map] at hC;clear ab ad ag;go_wp2_with fail;refine hC.mono ?_;rcases hqa:allS (ps.map gSl) with _ | zs
  .rintro e w4 ⟨rfl,l4,a9,h4,a8⟩;refine⟨rfl,?_⟩;rw[a0.out,hgn,if_pos rfl,hqa];exact⟨rfl,l4,a9,h4,a3.fw.trans a8⟩
  rintro e w4 ⟨rfl,l4,af,h4,a8⟩;have a5:=a3.step h4 a8;clear l0 l1 c0 x0 x1 x2 x3 x4 x5 x6 hC;have l0:g0<w4.heap.size:=a5.lt (q:=(g0,Am b)) (by simp);have l1:g0+1<w4.heap.size:=a5.lt (AC);have c0:=cell_of_one (a5.kept (g0,Am b) (by simp));obtain⟨x0,x1,x2,x3,x4,x5,x6,_⟩:=Bd (a5.kept _ (AC))
  go_upto_region 6 with fail
  rcases hgy:gType rs with _ | _
  .rw[hgy] at hY
   go_region_with (go_at_call 92;refine (hY _ aj).mono ?_;rintro e w5 ⟨rfl,rfl⟩;refine skip_way w4.drew ⟨rfl,(show WPost base b l 0 w res _ _ by rw[a0.out,hgn,if_pos rfl,hqa,hgy];exact⟨rfl,l4,0,a5.drew.wr,a5.drew.fw⟩)⟩ ?_)
   all_goals trivial
  rw[hgy] at hY;have az:=Fd hgy;have hP:=put_l a5.drew.wr ([58,32] ++ (rs ++ [32])) (by simp;omega);rw[<-Xb] at hP
  go_cut [] from 20 to 26 (λ wc=>∃l5,Bt l4 ([58,32] ++ (rs ++ [32])) l5/\In base b (fks b g0 (Gk nm true (.slice a1 ps.length q1) rs (.slice a2 bo.length q2) p)) l5 0 w wc)
  case first=>
   go_region_with (first
    |(go_at_call 92;refine (hY _ aj).mono ?_;rintro e w5 ⟨rfl,rfl⟩)
    |(go_at_call 60;refine hP.mono ?_;rintro e w6 ⟨rfl,l6,ae,h6,a6⟩))
   all_goals (go_wp2_with fail;go_meet;exact⟨l6,ae,a5.step h6 (AZ 1 a6)⟩)
  case rest=>
   clear l0 l1 c0 x0 x1 x2 x3 x4 x5 x6 hY hP;obtain⟨l5,aw,a4⟩:=hcut;have l0:g0<wc.heap.size:=a4.lt (q:=(g0,Am b)) (by simp);have l1:g0+1<wc.heap.size:=a4.lt (AC);have c0:=cell_of_one (a4.kept (g0,Am b) (by simp));obtain⟨x0,x1,x2,x3,x4,x5,x6,_⟩:=Bd (a4.kept _ (AC));have hC:=hB l5 0 _ wc ak a4.wr (aq wc a4.fw);go_wp2_with fail;refine hC.mono ?_;rcases hqb:gBlk (gSts bo (indT 0)) (indT 0) bo.isEmpty with _ | y
   .rintro e w6 ⟨rfl,l6,a7,h6,a6⟩;refine⟨rfl,?_⟩;rw[a0.out,hgn,if_pos rfl,hqa,Option.bind_some,hgy,if_pos rfl,hqb];exact⟨rfl,l6,a7,h6,a4.fw.trans a6⟩
   .rintro e w6 ⟨rfl,l6,ae,h6,a6⟩;go_wp2
    go_end0
    rw[a0.out,hgn,if_pos rfl,hqa,Option.bind_some,hgy,if_pos rfl,hqb];exact⟨rfl,l6,by simpa using ((am.trans af).trans aw).trans ae,h6,a4.fw.trans a6⟩
theorem Ax2{base:Nat}(f:GF)(hO:OkF f){l:AQ}(hW:Wr base b l 0 w)(hx:Hj (λ k=>k<base) w f cs) :
  AA 63 #[Bo b,.agg cs.toArray] w λ r w'=>WPost base b l 0 w (fnT (if f.on then [111,110,32] else [102,110,32]) f.name f.params f.result f.body) r w':=by
 obtain⟨nm,on,ps,rs,bo⟩:=f;cases on
 .exact Ax1 hW hx hO
 .exact Bb0 hW hx hO
end
section
open Go.RowKit
open Px (dg)
theorem In.tail{base:Nat}{q:Nat × Obj}{ks:List (Nat × Obj)}{l:AQ}{tabs:Nat}(h:In base b (q :: ks) l tabs w w'):In base b ks l tabs w w':=
 ⟨h.wr,λ q hq=>h.kept q (AH _ hq),λ q hq=>h.fine q (AH _ hq),h.fw⟩
structure OkP(p:GP):Prop where
 version:p.version<=9223372036854775807
 states:∀s∈p.states,OkL s
 fns:∀f∈p.fns,OkF f
def ssJ(ys:List (List UInt8)):List UInt8:=ys.flatMap λ y=>[115,116,97,116,101,32] ++ (y ++ [59,10])
def fsJ(ys:List (List UInt8)):List UInt8:=ys.flatMap λ y=>y
theorem Xc:∀l:List (List UInt8 × List UInt8),gSs l=(allS (l.map gSl)).map ssJ
 | []=>by simp[gSs,allS,ssJ]
 | s :: r=>by
  simp only[gSs,map_cons,allS,Xc r];rcases gSl s with _ | x <;> rcases allS (r.map gSl) with _ | xs <;> simp[ssJ]
theorem Xd:∀l:List GF,gFs l=(allS (l.map gFn)).map fsJ
 | []=>by simp[gFs,allS,fsJ]
 | s :: r=>by
  simp only[gFs,map_cons,allS,Xd r];rcases gFn s with _ | x <;> rcases allS (r.map gFn) with _ | xs <;> simp[fsJ]
theorem Bb1{base:Nat}{fs:List GF}{row:AR}{ao:Option Addr}{cap:Nat}(hr:SlRow (λ k=>k<base) w 7 (.slice ao fs.length cap) fs.length row)(ha:Eh (λ k=>k<base) w fs row)(hF:FW base b w w'){q:Nat}{f:GF}(hq:fs[q]?=some f) :
  ∃(g o:Nat) (x y:ByteArray) (on:Bool) (a1:Option Addr) (n1 q1:Nat) (a2:Option Addr) (n2 q2:Nat) (p:Int),ao=some ⟨g,o,none⟩/\g<w'.heap.size /\
   (w'.cell? ⟨g,o+q*7,none⟩=some (.string x)/\w'.cell? ⟨g,o+q*7+1,none⟩=some (.bool on)/\w'.cell? ⟨g,o+q*7+2,none⟩=some (.slice a1 n1 q1)/\w'.cell? ⟨g,o+q*7+3,none⟩=some (.string y)/\w'.cell? ⟨g,o+q*7+4,none⟩=some sZ/\w'.cell? ⟨g,o+q*7+5,none⟩=some (.slice a2 n2 q2)/\w'.cell? ⟨g,o+q*7+6,none⟩=some (iv p)) /\
   Hj (λ k=>k<base) w f [.string x,.bool on,.slice a1 n1 q1,.string y,sZ,.slice a2 n2 q2,iv p]:=by
 have a4:q<fs.length:=(AK hq).1;obtain⟨cx,kx,rx⟩:=ha.get hq;obtain⟨g,o,c,e0,_,_,a3,hg,hc⟩:=hr.cells (by omega);simp only[Value.slice.injEq] at e0;obtain⟨rfl,_,rfl⟩:=e0;have a0:=kx;obtain⟨pv,bv,p,rfl,⟨r1,h1,_⟩,⟨r2,h2,_⟩⟩:=kx;obtain⟨a1,q1,rfl,_⟩:=h1.slice;obtain⟨a2,q2,rfl,_⟩:=h2.slice;have f0:∀(j:Nat) (u:Value),j<7->([.string ⟨f.name.toArray⟩,.bool f.on,.slice a1 f.params.length q1,.string ⟨f.result.toArray⟩,sZ,.slice a2 f.body.length q2,iv p]:AR)[j]?=some u->w'.cell? ⟨g,o+q*7+j,none⟩=some u:=by
  intro j u hj hu;rw[Nat.add_assoc,hF.below.cell (p:=⟨g,o+(q*7+j),none⟩) a3];exact hc _ _ (by rw[rx j hj];exact hu)
 exact⟨g,o,_,_,_,_,_,_,_,_,_,p,rfl,by have:=hF.size;omega,⟨f0 0 _ (by omega) rfl,f0 1 _ (by omega) rfl,f0 2 _ (by omega) rfl,f0 3 _ (by omega) rfl,f0 4 _ (by omega) rfl,f0 5 _ (by omega) rfl,f0 6 _ (by omega) rfl⟩,a0⟩
theorem Aq3(y:AQ):((⟨#[118,101,114,115,105,111,110,32]⟩ ++ ⟨y.toArray⟩ ++ ⟨#[59,10]⟩:ByteArray))=⟨([118,101,114,115,105,111,110,32] ++ (y ++ [59,10])).toArray⟩:=by
 apply ByteArray.ext;simp[ByteArray.data_append]
theorem Aq4(ys:List (List UInt8))(y:AQ):ssJ (ys ++ [y])=ssJ ys ++ ([115,116,97,116,101,32] ++ (y ++ [59,10])):=by simp[ssJ]
theorem Aq5(ys:List (List UInt8))(y:AQ):fsJ (ys ++ [y])=fsJ ys ++ y:=by simp[fsJ]
abbrev Ki(cs:Array Value):Obj:=.cells cs 26 (0,0)
theorem Ss{base:Nat}{p:GP}(hO:OkP p){l:AQ}(hW:Wr base b l 0 w)(hx:P8 (λ k=>k<base) w p v) :
  AA 35 #[Bo b,v] w λ r w'=>WPost base b l 0 w (gPr p) r w':=by
 obtain⟨a5,ss,fs⟩:=p;obtain⟨bd,be,rfl,⟨bb,ah,al⟩,⟨row2,ag,b3⟩⟩:=hx;simp only at ah al ag b3;obtain⟨a1,q1,rfl,bc⟩:=ah.slice;obtain⟨a2,q2,rfl,b9⟩:=ag.slice;obtain⟨ay,ai,b7⟩:=hO;simp only at ay ai b7;obtain⟨res,a0⟩:∃res:Option (List UInt8),Aside (res=gPr ⟨a5,ss,fs⟩):=⟨_,show _=_ from rfl⟩;rw[<-a0.out];rw[gPr] at a0;simp only[Xc,Xd] at a0;have hE:=(BA hW).alloc #[iv a5,.slice a1 ss.length q1,.slice a2 fs.length q2] 26 (by decide);have hS:=λ (q:Nat) (s:List UInt8 × List UInt8) (w':World) (hq:ss[q]?=some s) (hF:FW base b w w')=>Xa ah al hF hq
 have ax:=λ (q:Nat) (f:GF) (w':World) (hq:fs[q]?=some f) (hF:FW base b w w')=>Bb1 ag b3 hF hq
 clear hW ah al ag b3;unfold maxLen at bc b9;go_enter func35,ntmps35;go_wp2_with fail;generalize w.alloc (.cells #[iv a5,.slice a1 ss.length q1,.slice a2 fs.length q2] 26)=w2 at *;generalize w.heap.size=g0 at *;have hN:=L8 a5 w2 hE.wr.tab ay;refine hN.mono ?_;by_cases hv:¬0<=a5
 .rw[if_neg hv];rintro e w3 ⟨rfl,ad⟩;refine⟨rfl,?_⟩;rw[a0.out,if_neg hv];exact⟨rfl,l,0,(hE.call ad).wr,(hE.call ad).fw⟩
 replace hv:0<=a5:=by omega
 rw[if_pos hv];rintro e w3 ⟨rfl,ad⟩;have aq:=hE.call ad;have ba:=Ae7 a5.toNat (by omega);replace a0:Aside (res=((allS (ss.map gSl)).map ssJ).bind λ x=>((allS (fs.map gFn)).map fsJ).map λ y=>([118,101,114,115,105,111,110,32] ++ (dg a5.toNat ++ [59,10])) ++ (x ++ y)):=by
  show _=_;rw[a0.out,if_pos hv];rcases allS (ss.map gSl) with _ | xs <;> rcases allS (fs.map gFn) with _ | ys <;> simp
 clear hN hE ad hv ay;generalize dg a5.toNat=dd at *;go_wp2_with fail;rw[Aq3];refine (put_l aq.wr ([118,101,114,115,105,111,110,32] ++ (dd ++ [59,10])) (by simp;omega)).mono ?_;rintro e w4 ⟨rfl,l4,b4,h4,b5⟩;have aj:=aq.step h4 b5;generalize [118,101,114,115,105,111,110,32] ++ (dd ++ [59,10])=hd at *;clear aq b5 h4 ba;have l0:g0<w4.heap.size:=aj.lt (AC);obtain⟨x0,x1,x2,_⟩:=Af (aj.kept _ (AC));go_wp2_with fail;clear l0 x0 x1 x2
 go_loopg [18] ss.length (λ g i wr=>∃(ys:List (List UInt8)) (lk:AQ),ys.length<=ss.length/\g=ss.length - ys.length/\i=iv ys.length/\(ss.take ys.length).map gSl=ys.map some/\Bt l (hd ++ ssJ ys) lk/\In base b [(g0,Ki #[iv a5,.slice a1 ss.length q1,.slice a2 fs.length q2])] lk 0 w wr)
 case atStart=>exact⟨[],l4,by simp,rfl,rfl,by simp,by simpa [ssJ] using b4,aj⟩
 case round=>
  clear b4 aj;obtain⟨ys,lk,hk,rfl,rfl,a9,ab,a3⟩:=hrel;by_cases hlt:ys.length<ss.length
  .clear ax;have b0:(ys.length:Int)<(ss.length:Int):=by omega
   obtain⟨s,hs⟩:∃s,ss[ys.length]?=some s:=⟨_,AN hlt⟩;obtain⟨g,o',x,y,pp,rfl,hg,⟨e0,e1,e2⟩,av⟩:=hS ys.length s wr hs a3.fw;have a8:s∈ss:=mem_of_getElem? hs;have a6:=a3.alloc #[.string x,.string y,iv pp] 40 (by decide);clear hS;go_wp2_with fail;generalize wr.alloc (.cells #[.string x,.string y,iv pp] 40)=w5 at *;generalize wr.heap.size=gg at *;refine (put_l a6.wr [115,116,97,116,101,32] (by simp)).mono ?_;rintro e w6 ⟨rfl,l6,b8,h6,b6⟩;have af:=a6.step h6 b6;have lg:gg<w6.heap.size:=af.lt (AC);obtain⟨x0,x1,x2,_⟩:=Af (af.kept _ (AC));have hC:=Oe h6 av (ai s a8).1 (ai s a8).2;clear e0 e1 e2 a6 b6;go_wp2_with fail;refine hC.mono ?_;rcases hq:gSl s with _ | z
   .rintro e w7 ⟨rfl,l7,a4,h7,aa⟩;refine⟨rfl,?_⟩;rw[a0.out,allS_none (xs:=ss.map gSl) (i:=ys.length) (by rw[List.getElem?_map,hs,Option.map_some,hq])];exact⟨rfl,l7,a4,h7,af.fw.trans aa⟩
   .rintro e w7 ⟨rfl,l7,az,h7,aa⟩;have ar:=af.step h7 aa;clear x0 x1 x2 lg hC;go_wp2_with fail;refine (put_l h7 [59,10] (by simp)).mono ?_;rintro e w8 ⟨rfl,l8,aw,h8,au⟩;have am:=(ar.step h8 au).tail;go_wp2_with fail;go_roundg (ss.length - (ys.length+1))
    case measure=>omega
    case rel=>
     refine⟨ys ++ [z],l8,by simp;omega,by simp,by simp,?_,?_,am⟩
     .rw[length_append,length_singleton,take_add_one,map_append,a9,hs];simp[hq]
     .rw[Aq4];simpa using ((ab.trans b8).trans az).trans aw
  .have b0:¬(ys.length:Int)<(ss.length:Int):=by omega
   have a7:ss.map gSl=ys.map some:=by
    rw[take_of_length_le (by omega)] at a9;exact a9
   replace a0:Aside (res=((allS (fs.map gFn)).map fsJ).map λ y=>(hd ++ ssJ ys) ++ y):=by
    show _=_;rw[a0.out,a7,allS_some];rcases allS (fs.map gFn) with _ | zs <;> simp
   clear hS a7 a9 hk ai;generalize hd ++ ssJ ys=hd2 at *;have l0:g0<wr.heap.size:=a3.lt (AC);obtain⟨x0,x1,x2,_⟩:=Af (a3.kept _ (AC));go_wp2_with fail;clear l0 x0 x1 x2
   go_loopg [33] fs.length (λ g i wr=>∃(zs:List (List UInt8)) (lk:AQ),zs.length<=fs.length/\g=fs.length - zs.length/\i=iv zs.length/\(fs.take zs.length).map gFn=zs.map some/\Bt l (hd2 ++ fsJ zs) lk/\In base b [(g0,Ki #[iv a5,.slice a1 ss.length q1,.slice a2 fs.length q2])] lk 0 w wr)
   case atStart=>exact⟨[],lk,by simp,rfl,rfl,by simp,by simpa [fsJ] using ab,a3⟩
   case round=>
    clear ab a3;obtain⟨zs,lk,hk,rfl,rfl,a9,ab,a3⟩:=hrel;by_cases hlt:zs.length<fs.length
    .have ae:(zs.length:Int)<(fs.length:Int):=by omega
     obtain⟨f,hf⟩:∃f,fs[zs.length]?=some f:=⟨_,AN hlt⟩;obtain⟨g,o',x,y,on,b1,n1,c1,b2,n2,c2,pp,rfl,hg,⟨e0,e1,e2,e3,e4,e5,e6⟩,av⟩:=ax zs.length f wr hf a3.fw;have a8:f∈fs:=mem_of_getElem? hf;have a6:=a3.alloc #[.string x,.bool on,.slice b1 n1 c1,.string y,sZ,.slice b2 n2 c2,iv pp] 36 (by decide);clear ax;go_wp2_with fail;generalize wr.alloc (.cells #[.string x,.bool on,.slice b1 n1 c1,.string y,sZ,.slice b2 n2 c2,iv pp] 36)=w5 at *;generalize wr.heap.size=gg at *;have hC:=Ax2 f (b7 f a8) a6.wr (av.since a6.fw.since);refine hC.mono ?_;have ak:=Ax0 f;rcases hq:fnT (if f.on then [111,110,32] else [102,110,32]) f.name f.params f.result f.body with _ | z
     .rw[hq] at ak;rintro e w7 ⟨rfl,l7,a4,h7,aa⟩;refine⟨rfl,?_⟩;rw[a0.out,allS_none (xs:=fs.map gFn) (i:=zs.length) (by rw[List.getElem?_map,hf,Option.map_some,ak];rfl)];exact⟨rfl,l7,a4,h7,a6.fw.trans aa⟩
     .rw[hq] at ak;rintro e w7 ⟨rfl,l7,az,h7,aa⟩;have ar:=a6.step h7 aa;clear e0 e1 e2 e3 e4 e5 e6 hC a6;go_wp2_with fail;refine (put_l h7 [10] (by simp)).mono ?_;rintro e w8 ⟨rfl,l8,aw,h8,au⟩;have am:=(ar.step h8 au).tail;go_wp2_with fail;go_roundg (fs.length - (zs.length+1))
      case measure=>omega
      case rel=>
       refine⟨zs ++ [z ++ [10]],l8,by simp;omega,by simp,by simp,?_,?_,am⟩
       .rw[length_append,length_singleton,take_add_one,map_append,a9,hf];simp[ak]
       .rw[Aq5];simpa using (ab.trans az).trans aw
    .have ae:¬(zs.length:Int)<(fs.length:Int):=by omega
     have a7:fs.map gFn=zs.map some:=by
      rw[take_of_length_le (by omega)] at a9;exact a9
     go_wp2
     go_end0
     rw[a0.out,a7,allS_some];exact⟨rfl,lk,ab,a3.wr,a3.fw⟩
end
section
open Px (Ex St Sl Pr exT WfE WfS Cs Fq WfF WfP Ky prT stT stsT)
open Lx (B Tok)
theorem S5{t:B}(h:VW 2 t m):m<=9223372036854775807:=by
 have h1:=h.reads [] (λ c hc=>by simp at hc);obtain⟨y,r,e,_,_⟩:=h.head;rw[append_nil,e] at h1;simp only[Lx.tokR] at h1;split at h1
 .unfold Lx.nameR at h1;split at h1 <;> simp[Lx.R.ok,Lx.R.bad] at h1
 split at h1
 .unfold Lx.numberR at h1;split at h1
  .simp[Lx.R.ok,Lx.R.bad] at h1
  split at h1
  .rename_i hv;simp only[Lx.R.ok,Sum.inl.injEq,Prod.mk.injEq] at h1;rw[h1.2.2.1] at hv;exact hv
  .simp[Lx.R.ok,Lx.R.bad] at h1
 split at h1
 .have:=Bm r.length r 1 [] 2 _ m _ (AD _) h1;omega
 .unfold Lx.markR at h1;split at h1 <;> simp[Lx.R.ok,Lx.R.bad] at h1
theorem Hc{t:B}(h:wordB t=true):t.length<=16:=by
 cases t with
 | nil=>simp
 | cons c r=>simp[wordB] at h;simp;omega
theorem Mp{t:B}(h:plainB t=true):t.length<=256:=by simp[plainB] at h;exact h.1
theorem Bw{n:Nat}(h:n<=256):n<=maxLen:=by unfold maxLen;omega
mutual
theorem Bb3:∀e:Ex,WfE VW e->OkE (Nb e)
 | .mk k o n t args p,hw=>by
  rw[WfE] at hw;obtain⟨hf,hs⟩:=hw;rw[Nb,OkE];have ha:=Vh args hs;rcases hf with h | h | h | h | h | h | h | h
  .obtain⟨rfl,rfl,rfl,hl,x,hx⟩:=h;have:=S5 hx;exact⟨by omega,Bw (by simp),ha⟩
  .obtain⟨rfl,rfl,rfl,hl,hn⟩:=h;exact⟨by omega,Bw (by simp),ha⟩
  .obtain⟨rfl,rfl,rfl,hl,hv⟩:=h;have:=Mp (Ju hv);exact⟨by omega,Bw (by omega),ha⟩
  .obtain⟨rfl,rfl,rfl,hl,hr,hv⟩:=h;have:=Hc (I3 hv);exact⟨by omega,Bw (by omega),ha⟩
  .obtain⟨rfl,rfl,rfl,hr,hv⟩:=h;have:=Hc (I3 hv);exact⟨by omega,Bw (by omega),ha⟩
  .obtain⟨rfl,rfl,rfl,rfl,hl⟩:=h;exact⟨by omega,Bw (by simp),ha⟩
  .obtain⟨hk,rfl,rfl,rfl,hl⟩:=h;exact⟨by omega,Bw (by simp),ha⟩
  .obtain⟨rfl,h1,h2,rfl,rfl,hl⟩:=h;exact⟨by omega,Bw (by simp),ha⟩
theorem Vh:∀l:List Ex,Px.WfEs VW l->Sh (Cb l)
 | [],_=>by rw[Cb,Sh];trivial
 | e :: r,hw=>by
  rw[Px.WfEs] at hw;rw[Cb,Sh];exact⟨Bb3 e hw.1,Vh r hw.2⟩
end
theorem He{t:B}(h:Ky VW t):t.length<=maxLen:=Bw (by have:=Hc (I3 h.2);omega)
mutual
theorem Bb4:∀s:St,WfS VW s->OkS (P5 s)/\gsD (P5 s)<=(stT s).length
 | .mk k n es b c p,hw=>by
  rw[WfS] at hw;obtain⟨hf,he,hb,hc⟩:=hw;rw[P5,OkS,gsD,stT];have h1:=Ql b hb;have h2:=Ql c hc;have h3:=Vh es (Px.WfEs_all.2 he);rcases hf with h | h | h | h | h | h
  .obtain⟨rfl,hn,hl,rfl,rfl⟩:=h;exact⟨⟨He hn,h3,h1.1,h2.1⟩,by simp[ofSts,Ei,Px.stK]⟩
  .obtain⟨rfl,hn,hl,rfl,rfl⟩:=h;refine⟨⟨He hn,h3,h1.1,h2.1⟩,?_⟩;simp only[ofSts,Ei,Px.stK];simp only[show ¬(2=1) by decide,if_false,if_true];split <;> simp
  .obtain⟨rfl,hn,hl,rfl,rfl⟩:=h;exact⟨⟨He hn,h3,h1.1,h2.1⟩,by simp[ofSts,Ei,Px.stK]⟩
  .obtain⟨rfl,rfl,hl⟩:=h;refine⟨⟨Bw (by simp),h3,h1.1,h2.1⟩,?_⟩;have a1:=h1.2;have a2:=h2.2;rcases c with _ | ⟨c1,c2⟩
   .simp[Px.stK,Px.blk,ofSts,Ei];omega
   .simp[Px.stK,Px.blk];omega
  .obtain⟨rfl,hn,hl,rfl⟩:=h;refine⟨⟨He hn,h3,h1.1,h2.1⟩,?_⟩;have a1:=h1.2;simp[Px.stK,Px.blk,ofSts,Ei];omega
  .obtain⟨rfl,rfl,hl,rfl,rfl⟩:=h;exact⟨⟨Bw (by simp),h3,h1.1,h2.1⟩,by simp[ofSts,Ei,Px.stK]⟩
theorem Ql:∀l:List St,Cs VW l->Ne (ofSts l)/\Ei (ofSts l)<=(stsT l).length
 | [],_=>by rw[ofSts,Ne,Ei];exact⟨trivial,by simp⟩
 | s :: r,hw=>by
  rw[Cs] at hw;rw[ofSts,Ne,Ei,stsT];have h1:=Bb4 s hw.1;have h2:=Ql r hw.2;exact⟨⟨h1.1,h2.1⟩,by simp;omega⟩
end
theorem Xj{y:B}(h:∃c,Px.Ty 4 y c):y.length<=maxLen:=by
 have hg:gType y=true:=by unfold gType;rw[if_pos (show Px.IsTy 4 y from h)]
 exact Bw (by have:=Fd hg;omega)
theorem At8{s:Sl}(h:Fq VW s):OkL (P6 s):=⟨He h.1,Xj h.2⟩
theorem Bb5{f:Px.Fn}(h:WfF VW f)(hc:(Px.fnT f).length<=4096):OkF (ofFn f):=by
 obtain⟨hn,hp,hy,hb,hd⟩:=h;have h1:=Ql f.body hb;refine⟨He hn,Xj hy,?_,h1.1,?_⟩
 .intro s hs;simp only[ofFn,mem_map] at hs;obtain⟨x,hx,rfl⟩:=hs;exact At8 (hp x hx)
 .show 0+1+Ei (ofSts f.body)<=_;simp[Px.fnT,Px.blk] at hc;have:=h1.2;omega
theorem K8:∀{l:List Px.Fn} {f:Px.Fn},f∈l->(Px.fnT f).length<=(Px.fsT l).length
 | [],f,h=>by simp at h
 | a :: r,f,h=>by
  rw[Px.fsT];rcases mem_cons.1 h with rfl | h
  .simp;omega
  .have:=K8 h;simp;omega
theorem Ay0{p:Pr}(h:WfP VW p)(hc:(prT p).length<=4096):OkP (ofPr p):=by
 obtain⟨⟨x,hx⟩,hs,hf⟩:=h;refine⟨?_,?_,?_⟩
 .have:=S5 hx;show (p.version:Int)<=_;omega
 .intro s hss;simp only[ofPr,mem_map] at hss;obtain⟨y,hy,rfl⟩:=hss;exact At8 (hs y hy)
 .intro f hff;simp only[ofPr,mem_map] at hff;obtain⟨y,hy,rfl⟩:=hff;refine Bb5 (hf y hy) ?_;have:=K8 hy;simp[prT] at hc;omega
end
end Go.Proofs.YtpckmjfabiallaaGreatDoor
