/- Texts of ours, joined. -/
import Derived.Test.YtpckmjfabiallaaGreatDoorH09
import Derived.Test.YtpckmjfabiallaaGreatDoorH06
set_option linter.unusedVariables false
set_option linter.unusedSimpArgs false
set_option maxRecDepth 100000
set_option maxHeartbeats 16000000
namespace Go.Proofs.YtpckmjfabiallaaGreatDoor
variable{b m:Nat}{cs:List Value}{v:Value}{w w' w1 w2:World}{x:List UInt8}
open List
open Tryz
section
open Go.RowKit
open Px (opL opX dg)
theorem need_ok(w:World):AA 89 #[.bool true] w λ e w'=>e=.returned (.tuple #[])/\w'=w:=by
 go_enter func89,ntmps89;go_wp2
 go_end0
 exact⟨rfl,rfl⟩
theorem need_no(w:World):AA 89 #[.bool false] w λ e w'=>e=.panicked Ct/\w'=w:=by
 go_enter func89,ntmps89;go_wp2;exact⟨rfl,rfl,rfl⟩
def I3(w:World)(r:Option (List UInt8))(e:Ending)(w':World):Prop:=
 match r with
 | some x=>e=.returned (.string ⟨x.toArray⟩)/\Below w.heap.size w w'
 | none=>e=.panicked Ct/\Below w.heap.size w w'
theorem Da(x:AQ)(w:World)(hs:x.length<=maxLen):AA 91 #[.string ⟨x.toArray⟩] w λ e w'=>e=(if gName x then .returned (.string ⟨x.toArray⟩) else .panicked Ct)/\w'=w:=by
 have h1:=Yo ⟨x.toArray⟩ w (by show x.toArray.size<=_;simpa using hs);simp only[toList_toArray] at h1;have h2:=Ei x w;unfold gName;rcases hw:wordB x with _ | _
 .rw[hw] at h1;go_enter func91,ntmps91;go_wp2_with (go_at_call 125;refine h1.mono ?_;rintro e w' ⟨rfl,rfl⟩);go_wp2_with (go_at_call 89;refine (need_no _).mono ?_;rintro e w' ⟨rfl,rfl⟩);exact⟨rfl,rfl,rfl⟩
 .rw[hw] at h1;rcases hr:Px.reserved x with _ | _
  .rw[hr] at h2;go_enter func91,ntmps91;go_wp2_with (go_at_call 125;refine h1.mono ?_;rintro e w' ⟨rfl,rfl⟩);go_wp2_with (go_at_call 126;refine h2.mono ?_;rintro e w' ⟨rfl,rfl⟩);go_wp2_with (go_at_call 89;refine (need_ok _).mono ?_;rintro e w' ⟨rfl,rfl⟩);go_ret;exact⟨rfl,rfl⟩
  .rw[hr] at h2;go_enter func91,ntmps91;go_wp2_with (go_at_call 125;refine h1.mono ?_;rintro e w' ⟨rfl,rfl⟩);go_wp2_with (go_at_call 126;refine h2.mono ?_;rintro e w' ⟨rfl,rfl⟩);go_wp2_with (go_at_call 89;refine (need_no _).mono ?_;rintro e w' ⟨rfl,rfl⟩);exact⟨rfl,rfl,rfl⟩
theorem Ie(x:AQ)(w:World)(hs:x.length<=maxLen):AA 92 #[.string ⟨x.toArray⟩] w λ e w'=>e=(if gType x then .returned (.string ⟨x.toArray⟩) else .panicked Ct)/\w'=w:=by
 have h1:=stype_any ⟨x.toArray⟩ w (by show x.toArray.size<=_;simpa using hs);simp only[toList_toArray] at h1;rcases hw:gType x with _ | _
 .rw[hw] at h1;go_enter func92,ntmps92;go_wp2_with (go_at_call 59;refine h1.mono ?_;rintro e w' ⟨rfl,rfl⟩);go_wp2_with (go_at_call 89;refine (need_no _).mono ?_;rintro e w' ⟨rfl,rfl⟩);exact⟨rfl,rfl,rfl⟩
 .rw[hw] at h1;go_enter func92,ntmps92;go_wp2_with (go_at_call 59;refine h1.mono ?_;rintro e w' ⟨rfl,rfl⟩);go_wp2_with (go_at_call 89;refine (need_ok _).mono ?_;rintro e w' ⟨rfl,rfl⟩);go_ret;exact⟨rfl,rfl⟩
theorem U8:∀(f u:Nat),u<f->Lib.decDigits u=Px.dgF f u
 | 0,u,h=>by omega
 | f+1,u,h=>by
  rw[Lib.decDigits,Px.dgF];split
  .rfl
  .rw[U8 f (u / 10) (by omega)]
theorem Ah9(n:Int)(h:0<=n):Lib.itoa n=dg n.toNat:=by
 rw[Lib.itoa,if_neg (by omega),dg];exact U8 _ _ (by omega)
theorem U9:∀(f u k:Nat),u<10 ^ k->1<=k->(Px.dgF f u).length<=k
 | 0,u,k,_,_=>by simp[Px.dgF]
 | f+1,u,k,h,hk=>by
  rw[Px.dgF];split
  .simpa using hk
  .rename_i h2;obtain⟨j,rfl⟩:∃j,k=j+1:=⟨k - 1,by omega⟩;have hj:1<=j:=by
    rcases Nat.eq_zero_or_pos j with rfl | hj
    .simp at h;omega
    .exact hj
   rw[Nat.pow_succ] at h;have:=U9 f (u / 10) j (by omega) hj;simp;omega
theorem Zn(n:Nat)(h:n<=9223372036854775807):(dg n).length<=19:=U9 _ _ 19 (by omega) (by omega)
theorem Kg{base:Nat}(n:Int)(w:World)(ht:Tb base w)(h1:n<=9223372036854775807):AA 61 #[iv n] w λ e w'=>I3 w (if 0<=n then some (dg n.toNat) else none) e w':=by
 by_cases h0:0<=n
 .rw[if_pos h0];have hI:=Tryz.strconv_Itoa n (by omega) h1 w ht.here;rw[Ah9 n h0] at hI;have hq:(decide (n ≥ 0))=true:=by simpa using h0
  go_enter func61,ntmps61;go_wp2_with (go_at_call 89;refine (need_ok _).mono ?_;rintro e w' ⟨rfl,rfl⟩);go_wp2_with (go_at_call 90;refine hI.mono ?_;rintro e w' ⟨rfl,k,os,rfl⟩);go_ret;exact⟨rfl,Lib.below_grow _ _ (AD _) k os⟩
 .rw[if_neg h0];have hq:(decide (n ≥ 0))=false:=by simpa using h0
  go_enter func61,ntmps61;go_wp2_with (go_at_call 89;refine (need_no _).mono ?_;rintro e w' ⟨rfl,rfl⟩);exact⟨rfl,rfl,AF _ _⟩
theorem Ws(n:Int)(w:World):AA 180 #[iv n] w λ e w'=>I3 w (if 0<=n/\n<=1 then some (if n=1 then [116,114,117,101] else [102,97,108,115,101]) else none) e w':=by
 by_cases h0:n=0
 .subst h0;go_enter func180,ntmps180;go_wp2_with (go_at_call 89;refine (need_ok _).mono ?_;rintro e w' ⟨rfl,rfl⟩);go_ret;exact⟨rfl,AF _ _⟩
 .by_cases h1:n=1
  .subst h1;go_enter func180,ntmps180;go_wp2_with (go_at_call 89;refine (need_ok _).mono ?_;rintro e w' ⟨rfl,rfl⟩);go_ret;exact⟨rfl,AF _ _⟩
  .rw[if_neg (by omega)];have q0:(n == 0)=false:=by simpa using h0
   have q1:(n == 1)=false:=by simpa using h1
   go_enter func180,ntmps180;go_wp2_with (go_at_call 89;refine (need_no _).mono ?_;rintro e w' ⟨rfl,rfl⟩);exact⟨rfl,rfl,AF _ _⟩
theorem Sx(x:AQ)(w:World)(hs:x.length<=maxLen):AA 181 #[.string ⟨x.toArray⟩] w λ e w'=>I3 w (if plainB x then some (Ey x) else none) e w':=by
 have h1:=Wi ⟨x.toArray⟩ w (by show x.toArray.size<=_;simpa using hs);simp only[toList_toArray] at h1;rcases hw:plainB x with _ | _
 .rw[hw] at h1;go_enter func181,ntmps181;go_wp2_with (go_at_call 210;refine h1.mono ?_;rintro e w' ⟨rfl,rfl⟩);go_wp2_with (go_at_call 89;refine (need_no _).mono ?_;rintro e w' ⟨rfl,rfl⟩);exact⟨rfl,rfl,AF _ _⟩
 .rw[hw] at h1;have hl:x.length<=256:=by simp[plainB] at hw;exact hw.1
  have hQ:=Wk ⟨x.toArray⟩ w (by show x.toArray.size<=_;simp;omega);simp only[toList_toArray] at hQ;go_enter func181,ntmps181;go_wp2_with (go_at_call 210;refine h1.mono ?_;rintro e w' ⟨rfl,rfl⟩);go_wp2_with (go_at_call 89;refine (need_ok _).mono ?_;rintro e w' ⟨rfl,rfl⟩);go_wp2_with (go_at_call 211;refine hQ.mono ?_;rintro e w' ⟨rfl,hb⟩);go_ret;exact⟨rfl,hb⟩
theorem Va(o:Nat)(h1:1<=o)(h2:o<=13)(w:World):AA 209 #[iv o] w λ e w'=>e=.returned (.tuple #[.string ⟨(opX o).toArray⟩,iv (opL o - 1:Nat)])/\w'=w:=by
 rcases Px.op_cases h1 h2 with rfl | rfl | rfl | rfl | rfl | rfl | rfl | rfl | rfl | rfl | rfl | rfl | rfl
 all_goals
  go_enter func209,ntmps209;go_wp2
  go_ret2
  exact⟨rfl,rfl⟩
theorem Ai0{o:Int}(h:gL o=0):¬(1<=o/\o<=13):=by
 intro ⟨h1,h2⟩;unfold gL at h;rw[if_pos (by omega)] at h;have:=(Px.opL_pos (o:=o.toNat) (by omega) (by omega)).1;omega
theorem Zo{o:Int}(h:gL o≠0):∃n:Nat,o=n/\1<=n/\n<=13:=by
 unfold gL at h;split at h
 .rename_i h0;refine⟨o.toNat,by omega,?_⟩;unfold opL at h
  (repeat' split at h) <;> omega
 .exact absurd rfl h
theorem Ai1(o:Int)(h:gL o=0)(w:World):AA 209 #[iv o] w λ e w'=>e=.panicked Ct/\w'=w:=by
 have h0:=Ai0 h;have q1:(o == 1)=false:=by simp;omega
 have q2:(o == 2)=false:=by simp;omega
 have q3:(o == 3)=false:=by simp;omega
 have q4:(o == 4)=false:=by simp;omega
 have q5:(o == 5)=false:=by simp;omega
 have q6:(o == 6)=false:=by simp;omega
 have q7:(o == 7)=false:=by simp;omega
 have q8:(o == 8)=false:=by simp;omega
 have q9:(o == 9)=false:=by simp;omega
 have a5:(o == 10)=false:=by simp;omega
 have a4:(o == 11)=false:=by simp;omega
 have a0:(o == 12)=false:=by simp;omega
 have a3:(o == 13)=false:=by simp;omega
 clear h0 h;go_enter func209,ntmps209;go_wp2;exact⟨rfl,rfl,rfl⟩
def nArgs(k:Int)(n:Nat):Nat:=if k=7 then n else if k=12\/k=15 then 2 else if k=13\/k=14 then 1 else 0
abbrev geBox(k o n:Int)(t:AQ)(x:Int)(y:ByteArray)(sl:Value)(p:Int):Array Value:=#[iv k,iv o,iv n,.string ⟨t.toArray⟩,iv x,.string y,sl,iv p]
theorem Cb(k o n:Int)(t:AQ)(x:Int)(y:ByteArray)(ao:Option Addr)(len cap:Nat)(p:Int)(w:World) :
  AA 178 #[.agg (geBox k o n t x y (.slice ao len cap) p)] w λ e w'=>e=.returned (iv (nArgs k len))/\Below w.heap.size w w':=by
 have hb:Below w.heap.size w (w.alloc (.cells (geBox k o n t x y (.slice ao len cap) p) 48)):=(AF _ _).alloc (AD _) _;have hN:Aside (nArgs k len=_):=rfl;go_enter func178,ntmps178;go_wp2
 all_goals
  go_ret;refine⟨?_,hb⟩;simp only[beq_iff_eq,beq_eq_false_iff_ne,ne_eq] at *;unfold nArgs
  (repeat' split) <;> first | rfl | (exfalso;omega)
theorem Mq(o n:Int)(t:AQ)(x:Int)(y:ByteArray)(ao:Option Addr)(len cap:Nat)(p:Int)(w:World) :
  AA 179 #[.agg (geBox 15 o n t x y (.slice ao len cap) p)] w λ e w'=>e=(if gL o=0 then .panicked Ct else .returned (iv (gL o - 1:Nat)))/\Below w.heap.size w w':=by
 have hb:Below w.heap.size w (w.alloc (.cells (geBox 15 o n t x y (.slice ao len cap) p) 48)):=(AF _ _).alloc (AD _) _;by_cases h:gL o=0
 .rw[if_pos h];have hO:=Ai1 o h;go_enter func179,ntmps179;go_wp2_with (go_at_call 209;refine (hO _).mono ?_;rintro e w' ⟨rfl,rfl⟩);exact⟨rfl,rfl,hb⟩
 .rw[if_neg h];obtain⟨o,rfl,h1,h2⟩:=Zo h;have hO:=Va o h1 h2;rw[gL_nat];generalize hv:(opL o - 1:Nat)=q at *;generalize hx:(opX o).toArray=xx at *;go_enter func179,ntmps179;go_wp2_with (go_at_call 209;refine (hO _).mono ?_;rintro e w' ⟨rfl,rfl⟩);go_wp2;go_ret;exact⟨rfl,hb⟩
theorem Db(k o n:Int)(hk:k≠15)(t:AQ)(x:Int)(y:ByteArray)(ao:Option Addr)(len cap:Nat)(p:Int)(w:World) :
  AA 179 #[.agg (geBox k o n t x y (.slice ao len cap) p)] w λ e w'=>e=.returned (iv (if k=13\/k=14 then 5 else 6))/\Below w.heap.size w w':=by
 have hb:Below w.heap.size w (w.alloc (.cells (geBox k o n t x y (.slice ao len cap) p) 48)):=(AF _ _).alloc (AD _) _;have a0:(k == 15)=false:=by simpa using hk
 go_enter func179,ntmps179;go_wp2
 all_goals
  go_ret;refine⟨?_,hb⟩;simp only[beq_iff_eq,beq_eq_false_iff_ne,ne_eq] at *
  (repeat' split) <;> first | rfl | (exfalso;omega)
theorem leave0{fn:Func}{tmps:Array Value}{R:Ending->World->Prop}(hr:fn.results=#[])(h:R (.returned (.tuple #[])) w):Leaves prog fn tmps R [] .returning w:=⟨_,results_none hr _ _ _,h⟩
theorem leaveP{fn:Func}{tmps:Array Value}{R:Ending->World->Prop}{c:List PanicEntry}(h:R (.panicked c) w):Leaves prog fn tmps R [] (.panicking c) w:=h
abbrev Vb(b:Nat)(x:AQ):Deferred:={ target:=.fn (.func 60) #[],args:=#[Bh b,.string ⟨x.toArray⟩] }
theorem Ki(b:Nat)(x:AQ)(w:World):(invoke (.fn (.func 60) #[]) #[Bh b,.string ⟨x.toArray⟩]).run prog w=.ok (.enter 60 #[Bh b,.string ⟨x.toArray⟩]) w:=by simp[go_sem]
theorem leave1{fn:Func}{tmps:Array Value}{R:Ending->World->Prop}{base:Nat}{l:AQ}{tabs:Nat}(hr:fn.results=#[])(hW:Wr base b l tabs w)(hx:x.length<=1099511627776)
  (h:∀l' w',Bm l x l'->Wr base b l' tabs w'->FW base b w w'->R (.returned (.tuple #[])) w'):Leaves prog fn tmps R [Vb b x] .returning w:=by
 refine leaves_cons (by simp) (Ki b x w) ?_;refine (Yz hW x hx .returning).mono ?_;rintro e u' w' ⟨rfl,rfl,l',h1,h2,h3⟩;exact leave0 hr (h l' w' h1 h2 h3)
theorem leave1P{fn:Func}{tmps:Array Value}{R:Ending->World->Prop}{base:Nat}{l:AQ}{tabs:Nat}(hW:Wr base b l tabs w)(hx:x.length<=1099511627776)
  (h:∀l' w',Wr base b l' tabs w'->FW base b w w'->R (.panicked Ct) w'):Leaves prog fn tmps R [Vb b x] (.panicking Ct) w:=by
 refine leaves_cons (by simp) (Ki b x w) ?_;refine (Yz hW x hx (.panicking Ct)).mono ?_;rintro e u' w' ⟨rfl,rfl,l',h1,h2,h3⟩;exact leaveP (h l' w' h2 h3)
def As5(fn:Func)(R:Ending->World->Prop):Exit->Act->World->Prop
 | .panic c,a,w=>∀tmps,Leaves prog fn tmps R a.defers (.panicking c) w
 | e,a,w=>bodyPostD prog fn R e a w
theorem A6{f:FuncId}{fn:Func}{c:Code}{args:Array Value}{R:Ending->World->Prop}(hf:prog.funcs[f]?=some fn)(hb:fn.body=some c)
  (h:c.wp prog (As5 fn R) { tmps:=args ++ Array.replicate (fn.ntmps - args.size) undef,defers:=[] } w):AA f args w R:=by
 refine calls_of_wp_defers hf hb (wp_mono h ?_);intro e a w h;cases e with
 | panic c=>exact h a.tmps
 | normal=>exact h
 | ret=>exact h
 | exit _=>exact h
 | goto _=>exact h
 | outgrown=>exact h
mutual
def OkE:GE->Prop
 | .mk k o n t args=>n<=9223372036854775807/\t.length<=maxLen/\Qp args
def Qp:List GE->Prop
 | []=>True
 | e :: r=>OkE e/\Qp r
end
abbrev Am(b:Nat):Obj:=.cells #[Bh b] 108 (0,0)
abbrev xBox(cs:Array Value):Obj:=.cells cs 48 (0,0)
structure In(base b:Nat)(ks:List (Nat × Obj))(l:AQ)(tabs:Nat)(w w':World):Prop where
 wr:Wr base b l tabs w'
 kept:∀q∈ks,w'.heap[q.1]?=some q.2
 fine:∀q∈ks,q.1≠b/\∀c fz,q.2≠.cells c 5 fz
 fw:FW base b w w'
theorem In.start{base:Nat}{l:AQ}{tabs:Nat}(h:Wr base b l tabs w):In base b [] l tabs w w:=⟨h,by simp,by simp,AY _ _ _⟩
abbrev BA:=@In.start
theorem In.step{base:Nat}{ks:List (Nat × Obj)}{l l':AQ}{tabs a0:Nat}{w'':World}(h:In base b ks l tabs w w')(hw:Wr base b l' a0 w'')(hf:FW base b w' w''):In base b ks l' a0 w w'':=
 ⟨hw,λ q hq=>hf.kept q.1 q.2 (h.kept q hq) (by simpa using (h.fine q hq).1) (h.fine q hq).2,h.fine,h.fw.trans hf⟩
theorem In.call{base:Nat}{ks:List (Nat × Obj)}{l:AQ}{tabs:Nat}{w'':World}(h:In base b ks l tabs w w')(hb:Below w'.heap.size w' w''):In base b ks l tabs w w'':=h.step (h.wr.call hb) (FW.of_below hb h.wr.base)
theorem In.drew{base:Nat}{ks:List (Nat × Obj)}{l:AQ}{tabs:Nat}(h:In base b ks l tabs w w'):In base b ks l tabs w w'.drew:=h.call ⟨rfl,rfl,rfl,AD _,λ _ _=>rfl⟩
theorem In.alloc{base:Nat}{ks:List (Nat × Obj)}{l:AQ}{tabs:Nat}(h:In base b ks l tabs w w')(cs:Array Value)(T:TypeId)(hT:T≠5):In base b ((w'.heap.size,.cells cs T (0,0)) :: ks) l tabs w (w'.alloc (.cells cs T (0,0))):=by
 have a0:=h.wr.lt;refine⟨h.wr.alloc _,?_,?_,h.fw.alloc h.wr.base _⟩
 .intro q hq;rcases mem_cons.1 hq with rfl | hq
  .exact heap_new w' _
  .have:=h.kept q hq;exact (Al (AB this).1).trans this
 .intro q hq;rcases mem_cons.1 hq with rfl | hq
  .exact⟨by show w'.heap.size≠b;omega,λ c fz e=>hT (by injection e)⟩
  .exact h.fine q hq
theorem In.lt{base:Nat}{ks:List (Nat × Obj)}{l:AQ}{tabs:Nat}(h:In base b ks l tabs w w'){q:Nat × Obj}(hq:q∈ks):q.1<w'.heap.size:=(AB (h.kept q hq)).1
abbrev eks(b g0:Nat)(cs:Array Value):List (Nat × Obj):=[(g0+1,xBox cs),(g0,Am b)]
theorem In.boxes{base:Nat}{l:AQ}{tabs:Nat}(h:Wr base b l tabs w)(cs:Array Value):In base b (eks b w.heap.size cs) l tabs w ((w.alloc (Am b)).alloc (xBox cs)):=by
 have:=((BA h).alloc #[Bh b] 108 (by decide)).alloc cs 48 (by decide);simpa [eks] using this
abbrev BB:=@In.boxes
theorem S2{base:Nat}{k o n:Int}{t:AQ}{args:List GE}{a0:Nat}{l:AQ}{tabs:Nat}(hW:Wr base b l tabs w)(hx:IsGE (λ k=>k<base) w (.mk k o n t args) cs)(hc:args.length≠nArgs k args.length) :
  AA 156 #[Bh b,.agg cs.toArray,iv a0] w λ r w'=>WPost base b l tabs w none r w':=by
 rw[IsGE] at hx;obtain⟨x,p,y,sl,row,rfl,hr,ha⟩:=hx;obtain⟨ao,cap,rfl,hm⟩:=hr.slice;have hE:=BB hW (geBox k o n t x y (.slice ao args.length cap) p);have hA:=Cb k o n t x y ao args.length cap p;have a5:((args.length:Int) == ((nArgs k args.length:Nat):Int))=false:=by simp;omega
 generalize hnn:nArgs k args.length=nn at *;generalize hll:args.length=ll at *;clear ha hr hm hc hW;refine A6 func156 rfl ?_;simp only[ntmps156,size_toArray,length_cons,length_nil,Nat.reduceAdd,Nat.reduceSub,Array.replicate_succ,Array.replicate_zero,push_toArray,append_toArray,nil_append,cons_append]
 go_upto_region 1 with fail
 generalize ((w.alloc (Am b)).alloc (xBox (geBox k o n t x y (.slice ao ll cap) p)))=w2 at *;generalize w.heap.size=g0 at *;have l0:g0<w2.heap.size:=hE.lt (q:=(g0,Am b)) (by simp);have l1:g0+1<w2.heap.size:=hE.lt (q:=(g0+1,xBox _)) (by simp;rfl);obtain⟨x0,x1,x2,x3,x4,x5,x6,x7,_⟩:=Ab (hE.kept _ (AC))
 go_region_with (first
  |(go_at_call 178;refine (hA _).mono ?_;rintro e w3 ⟨rfl,a4⟩;have a3:=hE.drew.call a4;have l3:g0+1<w3.heap.size:=a3.lt (q:=(g0+1,xBox _)) (by simp;rfl);obtain⟨y0,y1,y2,y3,y4,y5,y6,y7,_⟩:=Ab (a3.kept _ (AC)))
  |(go_at_call 89;refine (need_no _).mono ?_;rintro e w4 ⟨rfl,rfl⟩;refine skip_way w4 (λ _=>leaveP ⟨rfl,l,tabs,a3.wr,a3.fw⟩) ?_))
 all_goals trivial
def Dc(base b:Nat)(e:GE):Prop:=∀(least:Nat) (l:AQ) (tabs:Nat) (cs:AR) (w:World),least<=6->Wr base b l tabs w->IsGE (λ k=>k<base) w e cs ->
 AA 156 #[Bh b,.agg cs.toArray,iv least] w λ r w'=>WPost base b l tabs w ((gE e).map (withinS (Bo (least+1) e))) r w'
theorem Zq{k o n:Int}{t:AQ}{args:List GE}(h:gE (.mk k o n t args)=some x):∃xs,gEs args=some xs/\gKS k o n t args xs=some x:=by
 rw[gE] at h;rcases hx:gEs args with _ | xs
 .rw[hx] at h;cases h
 .rw[hx] at h;exact⟨xs,rfl,h⟩
theorem Ai2{o n:Int}{t:AQ}{args:List GE}{xs:List (List UInt8)}(h:gKS 15 o n t args xs=some x):gL o≠0:=by
 unfold gKS at h;simp only[show ¬((15:Int)=1) by decide,show ¬((15:Int)=2) by decide,show ¬((15:Int)=3) by decide,show ¬((15:Int)=6) by decide,show ¬((15:Int)=7) by decide,show ¬((15:Int)=12) by decide,show ¬((15:Int)=13) by decide,show ¬((15:Int)=14) by decide,if_false,if_true] at h;split at h
 .rename_i h1;exact h1.2
 .cases h
theorem Ao8{e:GE}(h:gE e=some x):Bo 1 e=false:=by
 obtain⟨k,o,n,t,args⟩:=e;obtain⟨xs,h1,h2⟩:=Zq h;by_cases hk:k=15
 .subst hk;have:=Ai2 h2;simp[Bo,GE.k,GE.o,this]
 .simp[Bo,GE.k,GE.o,hk]
theorem Ao9(e:GE):(gE e).map (withinS (Bo (0+1) e))=gE e:=by
 rcases h:gE e with _ | x
 .rfl
 .rw[show (0+1)=1 from rfl,Ao8 h];rfl
theorem Dc.top{base:Nat}{e:GE}(h:Dc base b e){l:AQ}{tabs:Nat}(hW:Wr base b l tabs w)(hx:IsGE (λ k=>k<base) w e cs) :
  AA 156 #[Bh b,.agg cs.toArray,iv 0] w λ r w'=>WPost base b l tabs w (gE e) r w':=by
 have:=h 0 l tabs cs w (by omega) hW hx;rw[Ao9] at this;exact this
theorem Ii{base:Nat}{e:GE}(hX:Dc base b e){l:AQ}{tabs:Nat}(hW:Wr base b l tabs w)(hx:IsGE (λ k=>k<base) w e cs) :
  AA 154 #[Bh b,.agg cs.toArray] w λ r w'=>WPost base b l tabs w ((gE e).map λ x=>91 :: (x ++ [93])) r w':=by
 match cs,hx.len,hx with
 | [c0,c1,c2,c3,c4,c5,c6,c7],_,hx=>
 have hE:=(BA hW).alloc #[c0,c1,c2,c3,c4,c5,c6,c7] 48 (by decide);clear hW
 go_enter_defers func154,ntmps154
 go_wp2_with fail
 generalize w.alloc (.cells #[c0,c1,c2,c3,c4,c5,c6,c7] 48)=w1 at *;generalize w.heap.size=g at *;refine (put_l hE.wr [91] (by simp)).mono ?_;rintro r w2 ⟨rfl,l2,a8,h2,a5⟩;have a3:=hE.step h2 a5;have lg:g<w2.heap.size:=a3.lt (q:=(g,_)) (by simp;rfl);obtain⟨x0,x1,x2,x3,x4,x5,x6,x7,_⟩:=Ab (a3.kept _ (AC));have hC:=hX.top h2 (hx.since a3.fw.since);have a6:=a3.fw;clear hE a3 a5;rcases hq:gE e with _ | x
 .rw[hq] at hC;go_wp2_with fail;refine hC.mono ?_;rintro r w3 ⟨rfl,l3,a0,h3,a4⟩;refine leave1P h3 (by simp) ?_;intro l4 w4 h4 hf4;rw[hq];exact⟨rfl,l4,a0,h4,(a6.trans a4).trans hf4⟩
 .rw[hq] at hC;go_wp2_with fail;refine hC.mono ?_;rintro r w3 ⟨rfl,l3,a7,h3,a4⟩;go_wp2;refine leave1 rfl h3 (by simp) ?_;intro l4 w4 hw4 h4 hf4;rw[hq];exact⟨rfl,l4,by simpa using (a8.trans a7).trans hw4,h4,(a6.trans a4).trans hf4⟩
theorem Ij{base:Nat}{e:GE}(hX:Dc base b e){l:AQ}{tabs:Nat}(hW:Wr base b l tabs w)(hx:IsGE (λ k=>k<base) w e cs) :
  AA 153 #[Bh b,.agg cs.toArray] w λ r w'=>WPost base b l tabs w ((gE e).map λ x=>[32,61,32] ++ (x ++ [59])) r w':=by
 match cs,hx.len,hx with
 | [c0,c1,c2,c3,c4,c5,c6,c7],_,hx=>
 have hE:=(BA hW).alloc #[c0,c1,c2,c3,c4,c5,c6,c7] 48 (by decide);clear hW;go_enter func153,ntmps153;go_wp2_with fail;generalize w.alloc (.cells #[c0,c1,c2,c3,c4,c5,c6,c7] 48)=w1 at *;generalize w.heap.size=g at *;refine (put_l hE.wr [32,61,32] (by simp)).mono ?_;rintro r w2 ⟨rfl,l2,a9,h2,a5⟩;have a3:=hE.step h2 a5;have lg:g<w2.heap.size:=a3.lt (q:=(g,_)) (by simp;rfl);obtain⟨x0,x1,x2,x3,x4,x5,x6,x7,_⟩:=Ab (a3.kept _ (AC));have hC:=hX.top h2 (hx.since a3.fw.since);have a6:=a3.fw;clear hE a3 a5;rcases hq:gE e with _ | x
 .rw[hq] at hC;go_wp2_with fail;refine hC.mono ?_;rintro r w3 ⟨rfl,l3,a0,h3,a4⟩;refine⟨rfl,?_⟩;rw[hq];exact⟨rfl,l3,a0,h3,a6.trans a4⟩
 .rw[hq] at hC;go_wp2_with fail;refine hC.mono ?_;rintro r w3 ⟨rfl,l3,a8,h3,a4⟩;go_wp2_with fail;refine (put_l h3 [59] (by simp)).mono ?_;rintro r w4 ⟨rfl,l4,a7,h4,aa⟩;go_wp2
  go_end0
  rw[hq];exact⟨rfl,l4,by simpa using (a9.trans a8).trans a7,h4,(a6.trans a4).trans aa⟩
def allS:List (Option (List UInt8))->Option (List (List UInt8))
 | []=>some []
 | x :: r=>x.bind λ y=>(allS r).map λ ys=>y :: ys
theorem Op:∀l:List GE,gEs l=allS (l.map gE)
 | []=>by simp[gEs,allS]
 | e :: r=>by
  simp only[gEs,map_cons,allS,Op r];rcases gE e with _ | x <;> rcases allS (r.map gE) with _ | xs <;> rfl
theorem Qq:∀l:List (List UInt8 × List UInt8),Oi l=allS (l.map gSl)
 | []=>by simp[Oi,allS]
 | e :: r=>by
  simp only[Oi,map_cons,allS,Qq r];rcases gSl e with _ | x <;> rcases allS (r.map gSl) with _ | xs <;> rfl
theorem allS_some:∀ys:List (List UInt8),allS (ys.map some)=some ys
 | []=>rfl
 | y :: r=>by simp[allS,allS_some r]
theorem allS_none:∀{xs:List (Option (List UInt8))} {i:Nat},xs[i]?=some none->allS xs=none
 | [],i,h=>by simp at h
 | x :: r,0,h=>by simp at h;subst h;rfl
 | x :: r,i+1,h=>by
  have:=allS_none (xs:=r) (i:=i) (by simpa using h);simp[allS,this]
theorem commas_snoc:∀(ys:List (List UInt8)) (x:AQ),commasS (ys ++ [x])=if ys=[] then x else commasS ys ++ ([44,32] ++ x)
 | [],x=>by simp[commasS]
 | [a],x=>by simp[commasS]
 | a :: c :: r,x=>by
  have:=commas_snoc (c :: r) x;rw[if_neg (by simp)] at this;rw[if_neg (by simp)];simp only[cons_append] at this ⊢;rw[commasS,this,commasS];simp
theorem Mu{xs:List (Option (List UInt8))}{ys:List (List UInt8)}(h:xs.take ys.length=ys.map some)(hx:xs[ys.length]?=some (some x)):xs.take (ys.length+1)=(ys ++ [x]).map some:=by
 rw[take_add_one,h,hx];simp
theorem Fl{base K:Nat}{caps:Array Value}{xs:List (Option (List UInt8))}{Inv:World->Prop}{l:AQ}{tabs:Nat}(h:Wr base b l tabs w)
  (hn:xs.length<=9223372036854775807)
  (hK:∀(args:Array Value) (w:World),(callFunc K args).run prog w=.ok (.enter K args) w)
  (hq:∀(i:Nat) (x:Option (List UInt8)) (l1:AQ) (w1:World),xs[i]?=some x->Wr base b l1 tabs w1->Inv w1->AA K (#[iv i] ++ caps) w1 λ e w2=>WPost base b l1 tabs w1 x e w2)
  (hI:∀(w1 w2:World),Inv w1->FW base b w1 w2->Inv w2) (h0:Inv w) :
  AA 93 #[Bh b,iv xs.length,.func (.func K) #[] caps] w λ e w'=>WPost base b l tabs w ((allS xs).map λ ys=>40 :: (commasS ys ++ [41])) e w':=by
 obtain⟨res,a6⟩:∃res,Aside (res=(allS xs).map λ ys=>40 :: (commasS ys ++ [41])):=⟨_,show _=_ from rfl⟩;rw[<-a6.out]
 go_enter_defers func93,ntmps93
 go_wp2_with fail
 refine (put_l h [40] (by simp)).mono ?_;rintro r w2 ⟨rfl,l2,af,h2,ad⟩;have i2:=hI _ _ h0 ad;clear h h0;go_wp2_with fail
 go_loopg [11] xs.length (λ g i wr=>∃(ys:List (List UInt8)) (lk:AQ),ys.length<=xs.length/\g=xs.length - ys.length/\i=iv ys.length/\xs.take ys.length=ys.map some/\Bm l (40 :: commasS ys) lk/\Wr base b lk tabs wr/\FW base b w wr/\Inv wr)
 case atStart=>exact⟨[],l2,by simp,rfl,rfl,by simp,by simpa [commasS] using af,h2,ad,i2⟩
 case round=>
  clear af h2 ad i2;obtain⟨ys,lk,hk,rfl,rfl,a9,ag,h1,ae,i1⟩:=hrel;by_cases hlt:ys.length<xs.length
  .have ab:(ys.length:Int)<(xs.length:Int):=by omega
   obtain⟨x,hx⟩:∃x,xs[ys.length]?=some x:=⟨_,AN hlt⟩;have a3:∀(l3:AQ) (w3:World),Bm lk (if ys=[] then [] else [44,32]) l3->Wr base b l3 tabs w3->FW base b w w3->Inv w3->AA K (#[iv ys.length] ++ caps) w3 λ e w4=>(match x with
     | some y=>e=.returned (.tuple #[])/\∃l4,Bm l (40 :: commasS (ys ++ [y])) l4/\Wr base b l4 tabs w4/\FW base b w w4/\Inv w4
     | none=>e=.panicked Ct/\∃l4 a0,Wr base b l4 a0 w4/\FW base b w w4):=by
    intro l3 w3 aa h3 a8 i3;refine (hq ys.length x l3 w3 hx h3 i3).mono ?_;intro e w4 hp;cases x with
    | none=>
     obtain⟨rfl,l4,t4,h4,a4⟩:=hp;exact⟨rfl,l4,t4,h4,a8.trans a4⟩
    | some y=>
     obtain⟨rfl,l4,a7,h4,a4⟩:=hp;refine⟨rfl,l4,?_,h4,a8.trans a4,hI _ _ i3 a4⟩;have:=(ag.trans aa).trans a7;rw[commas_snoc];split at this
     .rename_i hy;subst hy;simpa [commasS] using this
     .rename_i hy;rw[if_neg hy];simpa using this
   have a5:x=none->Aside (res=none):=by
    rintro rfl;show _=_;rw[a6.out,allS_none hx];rfl
   rcases Nat.eq_zero_or_pos ys.length with hz | hz
   .have ak:¬(0:Int)<(ys.length:Int):=by omega
    have ah:ys=[]:=length_eq_zero_iff.1 hz;have hC:=a3 lk wr (by rw[if_pos ah];exact Bm.refl lk) h1 ae i1;clear a3 hz ah;go_wp2_with fail;refine hC.mono ?_;cases x with
    | none=>
     rintro e w4 ⟨rfl,l4,a0,h4,a4⟩;refine leave1P h4 (by simp) ?_;intro l5 w5 h5 hf5;rw[(a5 rfl).out];exact⟨rfl,l5,a0,h5,a4.trans hf5⟩
    | some y=>
     rintro e w4 ⟨rfl,l4,a7,h4,a4,i4⟩;go_wp2_with fail;go_roundg (xs.length - (ys.length+1))
     case measure=>omega
     case rel=>exact⟨ys ++ [y],l4,by simp;omega,by simp,by simp,by simpa using Mu a9 hx,a7,h4,a4,i4⟩
   .have ak:(0:Int)<(ys.length:Int):=by omega
    have ai:ys≠[]:=by intro e;subst e;simp at hz
    go_wp2_with fail
    refine (put_l h1 [44,32] (by simp)).mono ?_;rintro e w3 ⟨rfl,l3,aa,h3,a8⟩;have hC:=a3 l3 w3 (by rw[if_neg ai];exact aa) h3 (ae.trans a8) (hI _ _ i1 a8);clear a3;go_wp2_with fail;refine hC.mono ?_;cases x with
    | none=>
     rintro e w4 ⟨rfl,l4,a0,h4,a4⟩;refine leave1P h4 (by simp) ?_;intro l5 w5 h5 hf5;rw[(a5 rfl).out];exact⟨rfl,l5,a0,h5,a4.trans hf5⟩
    | some y=>
     rintro e w4 ⟨rfl,l4,a7,h4,a4,i4⟩;go_wp2_with fail;go_roundg (xs.length - (ys.length+1))
     case measure=>omega
     case rel=>exact⟨ys ++ [y],l4,by simp;omega,by simp,by simp,by simpa using Mu a9 hx,a7,h4,a4,i4⟩
  .have ab:¬(ys.length:Int)<(xs.length:Int):=by omega
   have aj:xs=ys.map some:=by
    rw[take_of_length_le (by omega)] at a9;exact a9
   go_wp2;refine leave1 rfl h1 (by simp) ?_;intro l5 w5 hw5 h5 hf5;rw[a6.out,aj,allS_some];exact⟨rfl,l5,by simpa using ag.trans hw5,h5,ae.trans hf5⟩
end
section
open Go.RowKit
mutual
def gsD:GS->Nat
 | .mk k n es b c=>1+D0 b+D0 c
def D0:List GS->Nat
 | []=>0
 | s :: r=>gsD s+D0 r
end
theorem Qr:∀{l:List GS} {i:Nat} {s:GS},l[i]?=some s->gsD s<=D0 l
 | [],i,s,h=>by simp at h
 | a :: r,0,s,h=>by simp at h;subst h;rw[D0];omega
 | a :: r,i+1,s,h=>by have:=Qr (l:=r) (i:=i) (s:=s) (by simpa using h);rw[D0];omega
abbrev indT(tabs:Nat):List UInt8:=List.replicate tabs 9
theorem Mw(tabs:Nat):indT (tabs+1)=indT tabs ++ [9]:=replicate_succ'
def Zr(base b:Nat)(s:GS):Prop:=∀(l:AQ) (tabs:Nat) (cs:AR) (w:World),tabs+gsD s<=1099511627776->Wr base b l tabs w->IsGS (λ k=>k<base) w s cs ->
 AA 128 #[Bh b,.agg cs.toArray] w λ r w'=>WPost base b l tabs w (gSt s (indT tabs)) r w'
def Kj(base b:Nat)(ss:List GS):Prop:=∀(l:AQ) (tabs:Nat) (v:Value) (w:World),tabs+1+D0 ss<=1099511627776->Wr base b l tabs w->B1 (λ k=>k<base) w ss v ->
 AA 95 #[Bh b,v] w λ r w'=>WPost base b l tabs w (gBlk (gSts ss (indT tabs)) (indT tabs) ss.isEmpty) r w'
def stsJ(ind:AQ)(ys:List (List UInt8)):List UInt8:=ys.flatMap λ x=>ind ++ ([9] ++ (x ++ [10]))
def D3(ind:AQ)(ys:List (List UInt8)):List UInt8:=ys.flatMap λ x=>10 :: (ind ++ x)
theorem Qs(a0:AQ):∀l:List GS,gSts l a0=(allS (l.map λ s=>gSt s (a0 ++ [9]))).map (stsJ a0)
 | []=>by simp[gSts,allS,stsJ]
 | s :: r=>by
  rw[gSts,map_cons,allS,Qs a0 r];rcases gSt s (a0 ++ [9]) with _ | x <;> rcases allS (r.map λ s=>gSt s (a0 ++ [9])) with _ | xs <;> simp[stsJ]
theorem Qt(a0:AQ):∀ys:List (List UInt8),D3 (a0 ++ [9]) ys ++ [10]=10 :: stsJ a0 ys
 | []=>by simp[D3,stsJ]
 | x :: r=>by
  have:=Qt a0 r;simp only[D3,stsJ,flatMap_cons,append_assoc,cons_append,nil_append] at this ⊢;rw[this]
theorem S3(a0:AQ)(ys:List (List UInt8))(x:AQ):D3 a0 (ys ++ [x])=D3 a0 ys ++ (10 :: (a0 ++ x)):=by simp[D3]
theorem Zs(a0:AQ)(ys:List (List UInt8)):123 :: (D3 (a0 ++ [9]) ys ++ (10 :: (a0 ++ [125])))=blkS (stsJ a0 ys) a0 false:=by
 have:=Qt a0 ys;simp only[blkS,Bool.false_eq_true,if_false];rw[show D3 (a0 ++ [9]) ys ++ 10 :: (a0 ++ [125])=(D3 (a0 ++ [9]) ys ++ [10]) ++ (a0 ++ [125]) by simp,this];simp
theorem IsGS.shows{B:AS}{s:GS}(h:IsGS B w s cs):∃(k:Int) (nm:ByteArray) (x:Int) (f:Bool) (y:Int) (a1:Option Addr) (n1 q1:Nat) (a2:Option Addr) (n2 q2:Nat) (a3:Option Addr) (n3 q3:Nat) (p:Int),cs=[iv k,.string nm,iv x,.bool f,iv y,.slice a1 n1 q1,.slice a2 n2 q2,.slice a3 n3 q3,iv p]:=by
 obtain⟨k,nm,es,bo,el⟩:=s;rw[IsGS] at h;obtain⟨x,y,p,f,s1,s2,s3,r1,r2,r3,a0,h1,_,h3,_,h5,_⟩:=h;obtain⟨a1,q1,rfl,_⟩:=h1.slice;obtain⟨a2,q2,rfl,_⟩:=h3.slice;obtain⟨a3,q3,rfl,_⟩:=h5.slice;exact⟨_,_,_,_,_,_,_,_,_,_,_,_,_,_,_,a0⟩
abbrev sBox(cs:Array Value):Obj:=.cells cs 46 (0,0)
theorem S4{base:Nat}:Kj base b []:=by
 intro l tabs v w hd h hx;obtain⟨row,hr,ha⟩:=hx;obtain⟨ao,cap,rfl,hm⟩:=hr.slice
 go_enter_defers func95,ntmps95
 go_wp2_with fail
 refine (put_l h [123] (by simp)).mono ?_;rintro r w2 ⟨rfl,l2,a3,h2,a0⟩;go_wp2;refine leave1 rfl h2 (by simp) ?_;intro l4 w4 hw4 h4 hf4;exact⟨rfl,l4,by simpa [blkS] using a3.trans hw4,h4,a0.trans hf4⟩
theorem Wv{base:Nat}{ss:List GS}(av:0<ss.length)(hS:∀s∈ss,Zr base b s):Kj base b ss:=by
 intro l tabs v w hd h hx;obtain⟨row,hr,ha⟩:=hx;obtain⟨ao,cap,rfl,hm⟩:=hr.slice;have ax:((ss.length:Int) == 0)=false:=by rw[beq_eq_false_iff_ne];omega
 have af:ss.isEmpty=false:=by cases ss with | nil=>simp at av | cons _ _=>rfl
 unfold maxLen at hm;have a0:∀(q:Nat) (wr:World),q<ss.length->FW base b w wr->∃(s:GS) (g o:Nat) (u0 u1 u2 u3 u4 u5 u6 u7 u8:Value),ss[q]?=some s/\ao=some ⟨g,o,none⟩/\g<wr.heap.size /\
   (wr.cell? ⟨g,o+q*9,none⟩=some u0/\wr.cell? ⟨g,o+q*9+1,none⟩=some u1/\wr.cell? ⟨g,o+q*9+2,none⟩=some u2/\wr.cell? ⟨g,o+q*9+3,none⟩=some u3/\wr.cell? ⟨g,o+q*9+4,none⟩=some u4/\wr.cell? ⟨g,o+q*9+5,none⟩=some u5/\wr.cell? ⟨g,o+q*9+6,none⟩=some u6/\wr.cell? ⟨g,o+q*9+7,none⟩=some u7/\wr.cell? ⟨g,o+q*9+8,none⟩=some u8) /\
   IsGS (λ k=>k<base) w s [u0,u1,u2,u3,u4,u5,u6,u7,u8]:=by
  intro q wr hq hF;obtain⟨s,hs⟩:∃s,ss[q]?=some s:=⟨ss[q],AN hq⟩;obtain⟨cx,kx,rx⟩:=ha.get hs;obtain⟨g,o,c,e0,_,_,b0,hg,hc⟩:=hr.cells (by omega);simp only[Value.slice.injEq] at e0;obtain⟨rfl,_,rfl⟩:=e0
  match cx,kx.len,rx,kx with
  | [u0,u1,u2,u3,u4,u5,u6,u7,u8],_,rx,kx=>
   have f0:∀(j:Nat) (u:Value),j<9->([u0,u1,u2,u3,u4,u5,u6,u7,u8]:AR)[j]?=some u->wr.cell? ⟨g,o+q*9+j,none⟩=some u:=by
    intro j u hj hu;rw[Nat.add_assoc,hF.below.cell (p:=⟨g,o+(q*9+j),none⟩) b0];exact hc _ _ (by rw[rx j hj];exact hu)
   refine⟨s,g,o,u0,u1,u2,u3,u4,u5,u6,u7,u8,hs,rfl,by have:=hF.size;omega,⟨f0 0 _ (by omega) rfl,f0 1 _ (by omega) rfl,f0 2 _ (by omega) rfl,f0 3 _ (by omega) rfl,f0 4 _ (by omega) rfl,f0 5 _ (by omega) rfl,f0 6 _ (by omega) rfl,f0 7 _ (by omega) rfl,f0 8 _ (by omega) rfl⟩,kx⟩
 clear hr ha;obtain⟨res,a4⟩:∃res,Aside (res=gBlk (gSts ss (indT tabs)) (indT tabs) ss.isEmpty):=⟨_,rfl⟩;rw[<-a4.out];rw[af,Qs,<-Mw] at a4
 go_enter_defers func95,ntmps95
 go_wp2_with fail
 refine (put_l h [123] (by simp)).mono ?_;rintro r w2 ⟨rfl,l2,ak,h2,ar⟩;have aj:=h2.lt;obtain⟨c2,f2⟩:=h2.cells;have h3:=h2.tabs (tabs+1);have aa:=ar.set h2.le 2 (iv (tabs+1:Nat));clear h h2 ar;simp only[Int.natCast_add,Int.cast_ofNat_Int] at h3 aa;go_wp2_with fail;generalize w2.setCell ⟨b,2,none⟩ (iv ((tabs:Int)+1))=w3 at *
 go_loopg [21] ss.length (λ g i wr=>∃(ys:List (List UInt8)) (lk:AQ),ys.length<=ss.length/\g=ss.length - ys.length/\i=iv ys.length/\(ss.take ys.length).map (λ s=>gSt s (indT (tabs+1)))=ys.map some/\Bm l (123 :: D3 (indT (tabs+1)) ys) lk/\Wr base b lk (tabs+1) wr/\FW base b w wr)
 case atStart=>exact⟨[],l2,by simp,rfl,rfl,by simp,by simpa [D3] using ak,h3,aa⟩
 case round=>
  clear ak h3 aa aj c2 f2;obtain⟨ys,lk,hk,rfl,rfl,ah,al,h1,a8⟩:=hrel;by_cases hlt:ys.length<ss.length
  .have ai:(ys.length:Int)<(ss.length:Int):=by omega
   obtain⟨s,g,o,u0,u1,u2,u3,u4,u5,u6,u7,u8,hs,rfl,hg,⟨e0,e1,e2,e3,e4,e5,e6,e7,e8⟩,ab⟩:=a0 ys.length wr hlt a8;clear a0;have ae:s∈ss:=mem_of_getElem? hs;have b3:=Qr hs;obtain⟨k,nm,x,f,y,a1,n1,q1,a2,n2,q2,a3,n3,q3,p,aq⟩:=ab.shows;simp only[List.cons.injEq,and_true] at aq;obtain⟨rfl,rfl,rfl,rfl,rfl,rfl,rfl,rfl,rfl⟩:=aq;have hE:=(BA h1).alloc #[iv k,.string nm,iv x,.bool f,iv y,.slice a1 n1 q1,.slice a2 n2 q2,.slice a3 n3 q3,iv p] 46 (by decide);have au:=hS s ae;clear hS;go_wp2_with fail;generalize hww:wr.alloc (.cells #[iv k,.string nm,iv x,.bool f,iv y,.slice a1 n1 q1,.slice a2 n2 q2,.slice a3 n3 q3,iv p] 46)=w4 at *;generalize wr.heap.size=gg at *;refine (P6 hE.wr (by omega)).mono ?_;rintro e w5 ⟨rfl,l5,ay,h5,am⟩;have a7:=hE.step h5 am;have lg:gg<w5.heap.size:=a7.lt (q:=(gg,_)) (by simp;rfl);obtain⟨x0,x1,x2,x3,x4,x5,x6,x7,x8,_⟩:=Ad (a7.kept _ (AC));have a9:=a8.trans a7.fw;have hC:=au l5 (tabs+1) [iv k,.string nm,iv x,.bool f,iv y,.slice a1 n1 q1,.slice a2 n2 q2,.slice a3 n3 q3,iv p] w5 (by omega) h5 (ab.since a9.since);clear au ab hE a7 am hww e0 e1 e2 e3 e4 e5 e6 e7 e8;rcases hq:gSt s (indT (tabs+1)) with _ | x
   .rw[hq] at hC;go_wp2_with fail;refine hC.mono ?_;rintro e w6 ⟨rfl,l6,a5,h6,a6⟩;refine leave1P h6 (by simp) ?_;intro l7 w7 h7 ag;rw[a4.out,allS_none (i:=ys.length) (by rw[List.getElem?_map,hs,Option.map_some,hq])];exact⟨rfl,l7,a5,h7,(a9.trans a6).trans ag⟩
   .rw[hq] at hC;go_wp2_with fail;refine hC.mono ?_;rintro e w6 ⟨rfl,l6,aw,h6,a6⟩;go_wp2_with fail;go_roundg (ss.length - (ys.length+1))
    case measure=>omega
    case rel=>
     refine⟨ys ++ [x],l6,by simp;omega,by simp,by simp,?_,?_,h6,a9.trans a6⟩
     .rw[length_append,length_singleton,take_add_one,map_append,ah,hs];simp[hq]
     .rw[S3];simpa using (al.trans ay).trans aw
  .have ai:¬(ys.length:Int)<(ss.length:Int):=by omega
   have ad:ss.map (λ s=>gSt s (indT (tabs+1)))=ys.map some:=by
    rw[take_of_length_le (by omega)] at ah;exact ah
   obtain⟨c2,f2⟩:=h1.cells;simp only[Int.natCast_add,Int.cast_ofNat_Int] at c2;have b4:=h1.lt;have h6:=h1.tabs tabs;have a6:=a8.set h1.le 2 (iv (tabs:Nat));have e1:(tabs:Int)+1 - 1=tabs:=by omega
   clear a0 hS h1 a8;go_wp2_with fail;generalize wr.setCell ⟨b,2,none⟩ (iv (tabs:Int))=w6 at *;refine (P6 h6 (by omega)).mono ?_;rintro e w7 ⟨rfl,l7,az,h7,ag⟩;go_wp2;refine leave1 rfl h7 (by simp) ?_;intro l8 w8 hw8 h8 hf8;rw[a4.out,ad,allS_some];refine⟨rfl,l8,?_,h8,(a6.trans ag).trans hf8⟩;show Bm l (blkS (stsJ (indT tabs) ys) (indT tabs) false) l8;rw[<-Zs,<-Mw];simpa using (al.trans az).trans hw8
end
section
open Go.RowKit
open Px (opL opX dg)
theorem Cw{base:Nat}{args:List GE}{row:AR}{ao:Option Addr}{cap:Nat}(hr:SlRow (λ k=>k<base) w 8 (.slice ao args.length cap) args.length row)(ha:B0 (λ k=>k<base) w args row)(hF:FW base b w w'){q:Nat}{e:GE}(hq:args[q]?=some e) :
  ∃(g o:Nat) (u0 u1 u2 u3 u4 u5 u6 u7:Value),ao=some ⟨g,o,none⟩/\g<w'.heap.size /\
   (w'.cell? ⟨g,o+q*8,none⟩=some u0/\w'.cell? ⟨g,o+q*8+1,none⟩=some u1/\w'.cell? ⟨g,o+q*8+2,none⟩=some u2/\w'.cell? ⟨g,o+q*8+3,none⟩=some u3/\w'.cell? ⟨g,o+q*8+4,none⟩=some u4/\w'.cell? ⟨g,o+q*8+5,none⟩=some u5/\w'.cell? ⟨g,o+q*8+6,none⟩=some u6/\w'.cell? ⟨g,o+q*8+7,none⟩=some u7) /\
   IsGE (λ k=>k<base) w' e [u0,u1,u2,u3,u4,u5,u6,u7]:=by
 have a3:q<args.length:=(AK hq).1;obtain⟨cx,kx,rx⟩:=ha.get hq;obtain⟨g,o,c,e0,_,_,a0,hg,hc⟩:=hr.cells (by omega);simp only[Value.slice.injEq] at e0;obtain⟨rfl,_,rfl⟩:=e0
 match cx,kx.len,rx,kx with
 | [u0,u1,u2,u3,u4,u5,u6,u7],_,rx,kx=>
  have f0:∀(j:Nat) (u:Value),j<8->([u0,u1,u2,u3,u4,u5,u6,u7]:AR)[j]?=some u->w'.cell? ⟨g,o+q*8+j,none⟩=some u:=by
   intro j u hj hu;rw[Nat.add_assoc,hF.below.cell (p:=⟨g,o+(q*8+j),none⟩) a0];exact hc _ _ (by rw[rx j hj];exact hu)
  exact⟨g,o,u0,u1,u2,u3,u4,u5,u6,u7,rfl,by have:=hF.size;omega,⟨f0 0 _ (by omega) rfl,f0 1 _ (by omega) rfl,f0 2 _ (by omega) rfl,f0 3 _ (by omega) rfl,f0 4 _ (by omega) rfl,f0 5 _ (by omega) rfl,f0 6 _ (by omega) rfl,f0 7 _ (by omega) rfl⟩,kx.since hF.since⟩
structure CallIn(base b g0:Nat)(cs:Array Value)(w w1:World):Prop where
 p:w1.heap[g0]?=some (Am b)
 x:w1.heap[g0+1]?=some (xBox cs)
 gt:b<g0
 fw:FW base b w w1
theorem CallIn.step{base g0:Nat}{cs:Array Value}(h:CallIn base b g0 cs w w1)(hf:FW base b w1 w2):CallIn base b g0 cs w w2:=by
 have hg:=h.gt;exact⟨hf.block h.p (by omega) (by decide),hf.block h.x (by omega) (by decide),hg,h.fw.trans hf⟩
theorem Ww{base g0:Nat}{k o n:Int}{t:AQ}{x:Int}{y:ByteArray}{ao:Option Addr}{cap:Nat}{p:Int}{args:List GE}{row:AR}{tabs:Nat}(hr:SlRow (λ k=>k<base) w 8 (.slice ao args.length cap) args.length row)(ha:B0 (λ k=>k<base) w args row)(hX:∀e∈args,Dc base b e)
  (i:Nat) (r:Option (List UInt8)) (l:AQ) (w1:World) (hi:(args.map gE)[i]?=some r) (hW:Wr base b l tabs w1) (hI:CallIn base b g0 (geBox k o n t x y (.slice ao args.length cap) p) w w1) :
  AA 182 (#[iv i] ++ #[pt g0 0,pt (g0+1) 0]) w1 λ e w2=>WPost base b l tabs w1 r e w2:=by
 rw[List.getElem?_map] at hi;rcases he:args[i]? with _ | e
 .rw[he] at hi;cases hi
 rw[he,Option.map_some,Option.some.injEq] at hi;have a4:e∈args:=mem_of_getElem? he;have a8:i<args.length:=(AK he).1;obtain⟨_,_,-,hm⟩:=hr.slice;unfold maxLen at hm;obtain⟨g,o',u0,u1,u2,u3,u4,u5,u6,u7,rfl,hg,⟨e0,e1,e2,e3,e4,e5,e6,e7⟩,a5⟩:=Cw hr ha hI.fw he;have hC:=(hX e a4).top hW.drew (a5.since (Since.drewN _ w1 1));rw[hi] at hC;have l0:g0<w1.heap.size:=(AB hI.p).1;have l1:g0+1<w1.heap.size:=(AB hI.x).1;have c0:=cell_of_one hI.p;obtain⟨x0,x1,x2,x3,x4,x5,x6,x7,_⟩:=Ab hI.x;have a7:(i:Int)<(args.length:Int):=by omega
 have a9:(0:Int)<=(i:Int):=by omega
 clear hX hr ha a5 hI he hi;show AA 182 #[iv i,pt g0 0,pt (g0+1) 0] w1 _;go_enter func182,ntmps182
 go_upto_region 0 with fail
 rcases r with _ | z
 .go_region_with (go_at_call 156;refine hC.mono ?_;rintro e w5 ⟨rfl,l5,a0,h5,a3⟩;refine skip_way w5 ⟨rfl,rfl,l5,a0,h5,AZ 1 a3⟩ ?_)
  all_goals trivial
 .go_region_with (go_at_call 156;refine hC.mono ?_;rintro e w5 ⟨rfl,l5,a6,h5,a3⟩)
  all_goals
   go_wp2
   go_end0
   exact⟨rfl,l5,a6,h5,AZ 1 a3⟩
end
section
open Go.RowKit
open Px (opL opX dg lv)
theorem Ai4(m:Nat)(h1:1<=m)(h2:m<=13):(opX m).length<=2:=by
 rcases Px.op_cases h1 h2 with rfl | rfl | rfl | rfl | rfl | rfl | rfl | rfl | rfl | rfl | rfl | rfl | rfl <;> decide
theorem S6(m:Nat)(h1:1<=m)(h2:m<=13):1<=opL m/\opL m<=5:=by
 rcases Px.op_cases h1 h2 with rfl | rfl | rfl | rfl | rfl | rfl | rfl | rfl | rfl | rfl | rfl | rfl | rfl <;> decide
theorem Qv(mk:AQ):((⟨#[32]⟩ ++ ⟨mk.toArray⟩ ++ ⟨#[32]⟩:ByteArray))=⟨(32 :: (mk ++ [32])).toArray⟩:=by
 apply ByteArray.ext;simp[ByteArray.data_append]
theorem Kk{base:Nat}(h1:1<=m)(h2:m<=13){k n:Int}{t:AQ}{a c:GE}(ar:Dc base b a)(am:Dc base b c){l:AQ}{tabs:Nat}(hW:Wr base b l tabs w)(hx:IsGE (λ k=>k<base) w (.mk k m n t [a,c]) cs) :
  AA 183 #[Bh b,.agg cs.toArray] w λ r w'=>WPost base b l tabs w ((gE a).bind λ x=>(gE c).map λ y=>withinS (Bo (lv m) a) x ++ 32 :: (opX m ++ 32 :: withinS (Bo (opL m+1) c) y)) r w':=by
 rw[IsGE] at hx;obtain⟨x,p,y,sl,row,rfl,hr,ha⟩:=hx;obtain⟨ao,cap,rfl,hm⟩:=hr.slice;obtain⟨res,a0⟩:∃res:Option (List UInt8),Aside (res=(gE a).bind λ x=>(gE c).map λ y=>withinS (Bo (lv m) a) x ++ 32 :: (opX m ++ 32 :: withinS (Bo (opL m+1) c) y)):=⟨_,show _=_ from rfl⟩;rw[<-a0.out];have hE:=(BA hW).alloc (geBox k m n t x y (.slice ao 2 cap) p) 48 (by decide);have hO:=Va m h1 h2;have aw:=Ai4 m h1 h2;obtain⟨aq,av⟩:=S6 m h1 h2;obtain⟨lf,ad,a8⟩:∃lf:Nat,lf+1=lv m/\lf<=6:=⟨lv m - 1,by unfold lv;split <;> omega,by unfold lv;split <;> omega⟩;obtain⟨q,ak⟩:∃q:Nat,q+1=opL m:=⟨opL m - 1,by omega⟩;have ax:q<=4:=by omega
 have af:Aside ((q=2->lf=q+1)/\(q≠2->lf=q)):=by
  show _/\_;unfold lv at ad;rw[<-ak] at ad;constructor
  .intro h;rw[if_pos (by omega)] at ad;omega
  .intro h;rw[if_neg (by omega)] at ad;omega
 rw[<-ad,<-ak] at a0;rw[show opL m - 1=q by omega] at hO;generalize opX m=mk at *;clear hW hm aq av ad ak;have hA:=λ (w':World) (hF:FW base b w w')=>Cw hr ha hF (q:=0) (e:=a) rfl
 have hB:=λ (w':World) (hF:FW base b w w')=>Cw hr ha hF (q:=1) (e:=c) rfl
 clear hr ha;go_enter func183,ntmps183;go_wp2_with fail;generalize w.alloc (.cells (geBox k m n t x y (.slice ao 2 cap) p) 48)=w2 at *;generalize w.heap.size=g0 at *;have l0:g0<w2.heap.size:=hE.lt (q:=(g0,xBox _)) (by simp;rfl);obtain⟨x0,x1,x2,x3,x4,x5,x6,x7,_⟩:=Ab (hE.kept _ (AC));refine (hO _).mono ?_;rintro e w3 ⟨rfl,rfl⟩;obtain⟨g,o',u0,u1,u2,u3,u4,u5,u6,u7,rfl,hg,⟨e0,e1,e2,e3,e4,e5,e6,e7⟩,a7⟩:=hA w3 hE.fw;simp only[Nat.zero_mul,Nat.add_zero] at e0 e1 e2 e3 e4 e5 e6 e7;have hC:=ar lf l tabs _ w3 a8 hE.wr a7;clear a7 hA hO;have al:=hE.fw;by_cases h2q:q=2
 .have a5:=(af.out).1 h2q;have au:((q:Int) == 2)=true:=by rw[h2q];rfl
  clear h2q af;rw[a5] at hC a0;clear a5 a8
  try simp only[Int.natCast_add,Int.cast_ofNat_Int] at hC
  go_wp2_with fail
  refine hC.mono ?_;rcases hqa:gE a with _ | za
  .rintro e w4 ⟨rfl,l4,a6,h4,a9⟩;refine⟨rfl,?_⟩;rw[a0.out,hqa];exact⟨rfl,l4,a6,h4,al.trans a9⟩
  rintro e w4 ⟨rfl,l4,ah,h4,a9⟩;have aa:=hE.step h4 a9;clear e0 e1 e2 e3 e4 e5 e6 e7 x0 x1 x2 x3 x4 x5 x6 x7 l0 hg hC;have l0:g0<w4.heap.size:=aa.lt (q:=(g0,xBox _)) (by simp;rfl);obtain⟨x0,x1,x2,x3,x4,x5,x6,x7,_⟩:=Ab (aa.kept _ (AC));go_wp2_with fail;rw[Qv];refine (put_l h4 (32 :: (mk ++ [32])) (by simp;omega)).mono ?_;rintro e w5 ⟨rfl,l5,aj,h5,ai⟩;have a3:=aa.step h5 ai;clear x0 x1 x2 x3 x4 x5 x6 x7 l0;have l0:g0<w5.heap.size:=a3.lt (q:=(g0,xBox _)) (by simp;rfl);obtain⟨x0,x1,x2,x3,x4,x5,x6,x7,_⟩:=Ab (a3.kept _ (AC));obtain⟨g,o',u0,u1,u2,u3,u4,u5,u6,u7,ae,hg,⟨e0,e1,e2,e3,e4,e5,e6,e7⟩,a7⟩:=hB w5 a3.fw;simp only[Option.some.injEq,Addr.mk.injEq,and_true] at ae;obtain⟨rfl,rfl⟩:=ae;simp only[Nat.one_mul,Nat.add_assoc,Nat.reduceAdd] at e0 e1 e2 e3 e4 e5 e6 e7;have hC:=am (q+1) l5 tabs _ w5 (by omega) h5 a7;simp only[Int.natCast_add,Int.cast_ofNat_Int] at hC;clear a7 hB;go_wp2_with fail;refine hC.mono ?_;rcases hqc:gE c with _ | zc
  .rintro e w6 ⟨rfl,l6,a4,h6,ab⟩;refine⟨rfl,?_⟩;rw[a0.out,hqa,hqc];exact⟨rfl,l6,a4,h6,a3.fw.trans ab⟩
  .rintro e w6 ⟨rfl,l6,ag,h6,ab⟩;go_wp2
   go_end0
   rw[a0.out,hqa,hqc];exact⟨rfl,l6,by simpa using (ah.trans aj).trans ag,h6,a3.fw.trans ab⟩
 .have a5:=(af.out).2 h2q;have au:((q:Int) == 2)=false:=by rw[beq_eq_false_iff_ne];omega
  clear h2q af;rw[a5] at hC a0;clear a5 a8
  try simp only[Int.natCast_add,Int.cast_ofNat_Int] at hC
  go_wp2_with fail
  refine hC.mono ?_;rcases hqa:gE a with _ | za
  .rintro e w4 ⟨rfl,l4,a6,h4,a9⟩;refine⟨rfl,?_⟩;rw[a0.out,hqa];exact⟨rfl,l4,a6,h4,al.trans a9⟩
  rintro e w4 ⟨rfl,l4,ah,h4,a9⟩;have aa:=hE.step h4 a9;clear e0 e1 e2 e3 e4 e5 e6 e7 x0 x1 x2 x3 x4 x5 x6 x7 l0 hg hC;have l0:g0<w4.heap.size:=aa.lt (q:=(g0,xBox _)) (by simp;rfl);obtain⟨x0,x1,x2,x3,x4,x5,x6,x7,_⟩:=Ab (aa.kept _ (AC));go_wp2_with fail;rw[Qv];refine (put_l h4 (32 :: (mk ++ [32])) (by simp;omega)).mono ?_;rintro e w5 ⟨rfl,l5,aj,h5,ai⟩;have a3:=aa.step h5 ai;clear x0 x1 x2 x3 x4 x5 x6 x7 l0;have l0:g0<w5.heap.size:=a3.lt (q:=(g0,xBox _)) (by simp;rfl);obtain⟨x0,x1,x2,x3,x4,x5,x6,x7,_⟩:=Ab (a3.kept _ (AC));obtain⟨g,o',u0,u1,u2,u3,u4,u5,u6,u7,ae,hg,⟨e0,e1,e2,e3,e4,e5,e6,e7⟩,a7⟩:=hB w5 a3.fw;simp only[Option.some.injEq,Addr.mk.injEq,and_true] at ae;obtain⟨rfl,rfl⟩:=ae;simp only[Nat.one_mul,Nat.add_assoc,Nat.reduceAdd] at e0 e1 e2 e3 e4 e5 e6 e7;have hC:=am (q+1) l5 tabs _ w5 (by omega) h5 a7;simp only[Int.natCast_add,Int.cast_ofNat_Int] at hC;clear a7 hB;go_wp2_with fail;refine hC.mono ?_;rcases hqc:gE c with _ | zc
  .rintro e w6 ⟨rfl,l6,a4,h6,ab⟩;refine⟨rfl,?_⟩;rw[a0.out,hqa,hqc];exact⟨rfl,l6,a4,h6,a3.fw.trans ab⟩
  .rintro e w6 ⟨rfl,l6,ag,h6,ab⟩;go_wp2
   go_end0
   rw[a0.out,hqa,hqc];exact⟨rfl,l6,by simpa using (ah.trans aj).trans ag,h6,a3.fw.trans ab⟩
end
section
open Go.RowKit
open Px (opL opX dg)
theorem Mx(x:AQ)(w:World)(hs:x.length<=maxLen):AA 91 #[.string ⟨x.toArray⟩] w λ e w'=>I3 w (if gName x then some x else none) e w':=by
 refine (Da x w hs).mono ?_;rintro e w' ⟨rfl,rfl⟩;cases gName x
 .exact⟨rfl,AF _ _⟩
 .exact⟨rfl,AF _ _⟩
theorem My(h:gName x=true):x.length<=16:=by
 cases x with
 | nil=>simp
 | cons c r=>simp[gName,wordB] at h;simp;omega
theorem W0{base:Nat}{o n:Int}{t:AQ}{a3:Nat}{l:AQ}{tabs:Nat}(hW:Wr base b l tabs w)(hx:IsGE (λ k=>k<base) w (.mk 6 o n t []) cs)(af:a3<=6)(h1:t.length<=maxLen) :
  AA 156 #[Bh b,.agg cs.toArray,iv a3] w λ r w'=>WPost base b l tabs w (if gName t then some t else none) r w':=by
 rw[IsGE] at hx;obtain⟨x,p,y,sl,row,rfl,hr,ha⟩:=hx;obtain⟨ao,cap,rfl,hm⟩:=hr.slice;obtain⟨res,a0⟩:∃res:Option (List UInt8),Aside (res=if gName t then some t else none):=⟨_,show _=_ from rfl⟩;rw[<-a0.out];clear ha hr hm;have hE:=BB hW (geBox 6 o n t x y (.slice ao 0 cap) p);have hA:=Cb 6 o n t x y ao 0 cap p;rw[show nArgs 6 0=0 from rfl] at hA;clear hW;refine A6 func156 rfl ?_;simp only[ntmps156,size_toArray,length_cons,length_nil,Nat.reduceAdd,Nat.reduceSub,Array.replicate_succ,Array.replicate_zero,push_toArray,append_toArray,nil_append,cons_append]
 go_upto_region 1 with fail
 generalize ((w.alloc (Am b)).alloc (xBox (geBox 6 o n t x y (.slice ao 0 cap) p)))=w2 at *;generalize w.heap.size=g0 at *
 go_cut [] from 6 to 12 (λ wc=>In base b (eks b g0 (geBox 6 o n t x y (.slice ao 0 cap) p)) l tabs w wc)
 case first=>
  have l0:g0<w2.heap.size:=hE.lt (q:=(g0,Am b)) (by simp);have l1:g0+1<w2.heap.size:=hE.lt (q:=(g0+1,xBox _)) (by simp;rfl);obtain⟨x0,x1,x2,x3,x4,x5,x6,x7,_⟩:=Ab (hE.kept _ (AC))
  go_region_with (first
   |(go_at_call 178;refine (hA _).mono ?_;rintro e w3 ⟨rfl,ae⟩;have a7:=hE.drew.call ae;have l3:g0+1<w3.heap.size:=a7.lt (q:=(g0+1,xBox _)) (by simp;rfl);obtain⟨y0,y1,y2,y3,y4,y5,y6,y7,_⟩:=Ab (a7.kept _ (AC)))
   |(go_at_call 89;refine (need_ok _).mono ?_;rintro e w4 ⟨rfl,rfl⟩))
  all_goals (go_wp2_with fail;go_meet;exact a7)
 case rest=>
  clear hE hA;have hE:=hcut;have l0:g0<wc.heap.size:=hE.lt (q:=(g0,Am b)) (by simp);have l1:g0+1<wc.heap.size:=hE.lt (q:=(g0+1,xBox _)) (by simp;rfl);have c0:=cell_of_one (hE.kept (g0,Am b) (by simp));obtain⟨x0,x1,x2,x3,x4,x5,x6,x7,_⟩:=Ab (hE.kept _ (AC));have hL:=Db 6 o n (by decide) t x y ao 0 cap p wc;rw[if_neg (by decide)] at hL;have ad:¬(6:Int)<(a3:Int):=by omega
  go_wp2_with fail
  refine hL.mono ?_;rintro e w4 ⟨rfl,a8⟩;have a5:=hE.call a8;clear l0 l1 c0 x0 x1 x2 x3 x4 x5 x6 x7 hL hE hcut a8;have l0:g0<w4.heap.size:=a5.lt (q:=(g0,Am b)) (by simp);have l1:g0+1<w4.heap.size:=a5.lt (q:=(g0+1,xBox _)) (by simp;rfl);have c0:=cell_of_one (a5.kept (g0,Am b) (by simp));obtain⟨x0,x1,x2,x3,x4,x5,x6,x7,_⟩:=Ab (a5.kept _ (AC));have hN:AA 91 #[.string ⟨t.toArray⟩] w4.drew λ e w'=>I3 w4.drew res e w':=by
   rw[a0.out];exact Mx t w4.drew h1
  go_upto_region 14 with fail
  rcases hq:res with _ | z
  .rw[hq] at hN;clear a0
   go_region_with (go_at_call 91;refine hN.mono ?_;rintro e w5 ⟨rfl,a6⟩;have a4:=a5.drew.call a6;refine skip_way w5 (λ _=>leaveP (show WPost base b l tabs w res _ _ by rw[hq];exact⟨rfl,l,tabs,a4.wr,a4.fw⟩)) ?_)
   all_goals trivial
  .rw[hq] at hN;have ab:z.length<=1099511627776:=by
    have:=a0.out;rw[hq] at this;split at this
    .rename_i hpl;simp only[Option.some.injEq] at this;subst this;have:=My hpl;omega
    .cases this
   clear a0
   go_region_with (first
    |(go_at_call 91;refine hN.mono ?_;rintro e w5 ⟨rfl,a6⟩;have a4:=a5.drew.call a6;have l5:g0<w5.heap.size:=a4.lt (q:=(g0,Am b)) (by simp);have c5:=cell_of_one (a4.kept (g0,Am b) (by simp)))
    |(go_at_call 60;refine (put_l a4.wr z ab).mono ?_;rintro e w6 ⟨rfl,l6,aa,h6,a9⟩))
   all_goals
    go_wp2;exact leave0 rfl (show WPost base b l tabs w res _ _ by rw[hq];exact⟨rfl,l6,aa,h6,a4.fw.trans a9⟩)
end
section
open Go.RowKit
open Px (opL opX dg lv)
theorem Zz(o n:Int)(t:AQ)(a:GE)(a0:Nat):Bo (a0+1) (.mk 13 o n t [a])=decide (5<a0):=by
 simp[Bo,GE.k,GE.o];omega
theorem W2{base:Nat}{o n:Int}{t:AQ}{a:GE}{a0:Nat}{l:AQ}{tabs:Nat}(hW:Wr base b l tabs w)(hx:IsGE (λ k=>k<base) w (.mk 13 o n t [a]) cs)(aj:Dc base b a)(ar:a0<=6) :
  AA 156 #[Bh b,.agg cs.toArray,iv a0] w λ r w'=>WPost base b l tabs w ((gE a).map λ x=>withinS (Bo (a0+1) (.mk 13 o n t [a])) (45 :: withinS (Bo 6 a) x)) r w':=by
 rw[IsGE] at hx;obtain⟨x,p,y,sl,row,rfl,hr,ha⟩:=hx;obtain⟨ao,cap,rfl,hm⟩:=hr.slice;obtain⟨res,a6⟩:∃res:Option (List UInt8),Aside (res=(gE a).map λ x=>withinS (Bo (a0+1) (.mk 13 o n t [a])) (45 :: withinS (Bo 6 a) x)):=⟨_,show _=_ from rfl⟩;rw[<-a6.out];have ad:=λ (q:Nat) (e:GE) (w':World) (hq:([a]:List GE)[q]?=some e) (hF:FW base b w w')=>Cw hr ha hF hq
 clear hr ha hm;have hE:=BB hW (geBox 13 o n t x y (.slice ao 1 cap) p);have hA:=Cb 13 o n t x y ao 1 cap p;rw[show nArgs 13 1=1 from rfl] at hA;clear hW;refine A6 func156 rfl ?_;simp only[ntmps156,size_toArray,length_cons,length_nil,Nat.reduceAdd,Nat.reduceSub,Array.replicate_succ,Array.replicate_zero,push_toArray,append_toArray,nil_append,cons_append]
 go_upto_region 1 with fail
 generalize ((w.alloc (Am b)).alloc (xBox (geBox 13 o n t x y (.slice ao 1 cap) p)))=w2 at *;generalize w.heap.size=g0 at *
 go_cut [] from 6 to 12 (λ wc=>In base b (eks b g0 (geBox 13 o n t x y (.slice ao 1 cap) p)) l tabs w wc)
 case first=>
  have l0:g0<w2.heap.size:=hE.lt (q:=(g0,Am b)) (by simp);have l1:g0+1<w2.heap.size:=hE.lt (q:=(g0+1,xBox _)) (by simp;rfl);obtain⟨x0,x1,x2,x3,x4,x5,x6,x7,_⟩:=Ab (hE.kept _ (AC))
  go_region_with (first
   |(go_at_call 178;refine (hA _).mono ?_;rintro e w3 ⟨rfl,aq⟩;have af:=hE.drew.call aq;have l3:g0+1<w3.heap.size:=af.lt (q:=(g0+1,xBox _)) (by simp;rfl);obtain⟨y0,y1,y2,y3,y4,y5,y6,y7,_⟩:=Ab (af.kept _ (AC)))
   |(go_at_call 89;refine (need_ok _).mono ?_;rintro e w4 ⟨rfl,rfl⟩))
  all_goals (go_wp2_with fail;go_meet;exact af)
 case rest=>
  clear hE hA;have hE:=hcut;have l0:g0<wc.heap.size:=hE.lt (q:=(g0,Am b)) (by simp);have l1:g0+1<wc.heap.size:=hE.lt (q:=(g0+1,xBox _)) (by simp;rfl);have c0:=cell_of_one (hE.kept (g0,Am b) (by simp));obtain⟨x0,x1,x2,x3,x4,x5,x6,x7,_⟩:=Ab (hE.kept _ (AC));have hL:=Db 13 o n (by decide) t x y ao 1 cap p wc;rw[if_pos (by decide)] at hL;go_wp2_with fail;refine hL.mono ?_;rintro e w4 ⟨rfl,ak⟩;have a7:=hE.call ak;clear l0 l1 c0 x0 x1 x2 x3 x4 x5 x6 x7 hL hE hcut ak;have l0:g0<w4.heap.size:=a7.lt (q:=(g0,Am b)) (by simp);have l1:g0+1<w4.heap.size:=a7.lt (q:=(g0+1,xBox _)) (by simp;rfl);have c0:=cell_of_one (a7.kept (g0,Am b) (by simp));obtain⟨x0,x1,x2,x3,x4,x5,x6,x7,_⟩:=Ab (a7.kept _ (AC));have a4:=Zz o n t a a0;by_cases h5:5<a0
  .have ai:(5:Int)<(a0:Int):=by omega
   have a8:Bo (a0+1) (.mk 13 o n t [a])=true:=by rw[a4];simpa using h5
   clear a4 h5;go_wp2_with fail;refine (put_l a7.wr [40] (by simp)).mono ?_;rintro e w5 ⟨rfl,l5,am,h5,al⟩;have aa:=a7.step h5 al;clear l0 l1 c0 x0 x1 x2 x3 x4 x5 x6 x7;have l0:g0<w5.heap.size:=aa.lt (q:=(g0,Am b)) (by simp);have l1:g0+1<w5.heap.size:=aa.lt (q:=(g0+1,xBox _)) (by simp;rfl);have c0:=cell_of_one (aa.kept (g0,Am b) (by simp));obtain⟨x0,x1,x2,x3,x4,x5,x6,x7,_⟩:=Ab (aa.kept _ (AC));go_wp2_with fail;refine (put_l aa.wr [45] (by simp)).mono ?_;rintro e w6 ⟨rfl,l6,ae,h6,ag⟩;have a3:=aa.step h6 ag;clear l0 l1 c0 x0 x1 x2 x3 x4 x5 x6 x7;have l0:g0<w6.heap.size:=a3.lt (q:=(g0,Am b)) (by simp);have l1:g0+1<w6.heap.size:=a3.lt (q:=(g0+1,xBox _)) (by simp;rfl);have c0:=cell_of_one (a3.kept (g0,Am b) (by simp));obtain⟨x0,x1,x2,x3,x4,x5,x6,x7,_⟩:=Ab (a3.kept _ (AC));obtain⟨g,o',u0,u1,u2,u3,u4,u5,u6,u7,rfl,hg,⟨e0,e1,e2,e3,e4,e5,e6,e7⟩,ab⟩:=ad 0 a w6 rfl a3.fw;simp only[Nat.zero_mul,Nat.add_zero] at e0 e1 e2 e3 e4 e5 e6 e7;have hC:=aj 5 l6 tabs _ w6.drew (by omega) h6.drew (ab.since (Since.drewN _ w6 1));clear ab;rcases hqa:gE a with _ | za
   .rw[hqa] at hC
    go_upto_region 23 with fail
    go_region_with (go_at_call 156;refine hC.mono ?_;rintro e w7 ⟨rfl,l7,a5,h7,a9⟩;refine skip_way w7 (λ _=>leave1P h7 (by simp) (λ l8 w8 h8 hf8=>show WPost base b l tabs w res _ _ by rw[a6.out,hqa];exact⟨rfl,l8,a5,h8,(a3.fw.trans (AZ 1 a9)).trans hf8⟩)) ?_)
    all_goals trivial
   .rw[hqa] at hC
    go_upto_region 23 with fail
    go_region_with (go_at_call 156;refine hC.mono ?_;rintro e w7 ⟨rfl,l7,ah,h7,a9⟩)
    all_goals
     go_wp2;exact leave1 rfl h7 (by simp) (λ l8 w8 hw8 h8 hf8=>show WPost base b l tabs w res _ _ by rw[a6.out,hqa,Option.map_some,a8];exact⟨rfl,l8,by simpa [withinS] using ((am.trans ae).trans ah).trans hw8,h8,(a3.fw.trans (AZ 1 a9)).trans hf8⟩)
  .have ai:¬(5:Int)<(a0:Int):=by omega
   have a8:Bo (a0+1) (.mk 13 o n t [a])=false:=by rw[a4];simpa using h5
   clear a4 h5;go_wp2_with fail;refine (put_l a7.wr [45] (by simp)).mono ?_;rintro e w6 ⟨rfl,l6,ae,h6,ag⟩;have a3:=a7.step h6 ag;clear l0 l1 c0 x0 x1 x2 x3 x4 x5 x6 x7;have l0:g0<w6.heap.size:=a3.lt (q:=(g0,Am b)) (by simp);have l1:g0+1<w6.heap.size:=a3.lt (q:=(g0+1,xBox _)) (by simp;rfl);have c0:=cell_of_one (a3.kept (g0,Am b) (by simp));obtain⟨x0,x1,x2,x3,x4,x5,x6,x7,_⟩:=Ab (a3.kept _ (AC));obtain⟨g,o',u0,u1,u2,u3,u4,u5,u6,u7,rfl,hg,⟨e0,e1,e2,e3,e4,e5,e6,e7⟩,ab⟩:=ad 0 a w6 rfl a3.fw;simp only[Nat.zero_mul,Nat.add_zero] at e0 e1 e2 e3 e4 e5 e6 e7;have hC:=aj 5 l6 tabs _ w6.drew (by omega) h6.drew (ab.since (Since.drewN _ w6 1));clear ab;rcases hqa:gE a with _ | za
   .rw[hqa] at hC
    go_upto_region 23 with fail
    go_region_with (go_at_call 156;refine hC.mono ?_;rintro e w7 ⟨rfl,l7,a5,h7,a9⟩;refine skip_way w7 (λ _=>leaveP (show WPost base b l tabs w res _ _ by rw[a6.out,hqa];exact⟨rfl,l7,a5,h7,a3.fw.trans (AZ 1 a9)⟩)) ?_)
    all_goals trivial
   .rw[hqa] at hC
    go_upto_region 23 with fail
    go_region_with (go_at_call 156;refine hC.mono ?_;rintro e w7 ⟨rfl,l7,ah,h7,a9⟩)
    all_goals
     go_wp2;exact leave0 rfl (show WPost base b l tabs w res _ _ by rw[a6.out,hqa,Option.map_some,a8];exact⟨rfl,l7,by simpa [withinS] using ae.trans ah,h7,a3.fw.trans (AZ 1 a9)⟩)
theorem Z0(o n:Int)(t:AQ)(a:GE)(a0:Nat):Bo (a0+1) (.mk 14 o n t [a])=decide (5<a0):=by
 simp[Bo,GE.k,GE.o];omega
theorem W3{base:Nat}{o n:Int}{t:AQ}{a:GE}{a0:Nat}{l:AQ}{tabs:Nat}(hW:Wr base b l tabs w)(hx:IsGE (λ k=>k<base) w (.mk 14 o n t [a]) cs)(aj:Dc base b a)(ar:a0<=6) :
  AA 156 #[Bh b,.agg cs.toArray,iv a0] w λ r w'=>WPost base b l tabs w ((gE a).map λ x=>withinS (Bo (a0+1) (.mk 14 o n t [a])) (33 :: withinS (Bo 6 a) x)) r w':=by
 rw[IsGE] at hx;obtain⟨x,p,y,sl,row,rfl,hr,ha⟩:=hx;obtain⟨ao,cap,rfl,hm⟩:=hr.slice;obtain⟨res,a6⟩:∃res:Option (List UInt8),Aside (res=(gE a).map λ x=>withinS (Bo (a0+1) (.mk 14 o n t [a])) (33 :: withinS (Bo 6 a) x)):=⟨_,show _=_ from rfl⟩;rw[<-a6.out];have ad:=λ (q:Nat) (e:GE) (w':World) (hq:([a]:List GE)[q]?=some e) (hF:FW base b w w')=>Cw hr ha hF hq
 clear hr ha hm;have hE:=BB hW (geBox 14 o n t x y (.slice ao 1 cap) p);have hA:=Cb 14 o n t x y ao 1 cap p;rw[show nArgs 14 1=1 from rfl] at hA;clear hW;refine A6 func156 rfl ?_;simp only[ntmps156,size_toArray,length_cons,length_nil,Nat.reduceAdd,Nat.reduceSub,Array.replicate_succ,Array.replicate_zero,push_toArray,append_toArray,nil_append,cons_append]
 go_upto_region 1 with fail
 generalize ((w.alloc (Am b)).alloc (xBox (geBox 14 o n t x y (.slice ao 1 cap) p)))=w2 at *;generalize w.heap.size=g0 at *
 go_cut [] from 6 to 12 (λ wc=>In base b (eks b g0 (geBox 14 o n t x y (.slice ao 1 cap) p)) l tabs w wc)
 case first=>
  have l0:g0<w2.heap.size:=hE.lt (q:=(g0,Am b)) (by simp);have l1:g0+1<w2.heap.size:=hE.lt (q:=(g0+1,xBox _)) (by simp;rfl);obtain⟨x0,x1,x2,x3,x4,x5,x6,x7,_⟩:=Ab (hE.kept _ (AC))
  go_region_with (first
   |(go_at_call 178;refine (hA _).mono ?_;rintro e w3 ⟨rfl,aq⟩;have af:=hE.drew.call aq;have l3:g0+1<w3.heap.size:=af.lt (q:=(g0+1,xBox _)) (by simp;rfl);obtain⟨y0,y1,y2,y3,y4,y5,y6,y7,_⟩:=Ab (af.kept _ (AC)))
   |(go_at_call 89;refine (need_ok _).mono ?_;rintro e w4 ⟨rfl,rfl⟩))
  all_goals (go_wp2_with fail;go_meet;exact af)
 case rest=>
  clear hE hA;have hE:=hcut;have l0:g0<wc.heap.size:=hE.lt (q:=(g0,Am b)) (by simp);have l1:g0+1<wc.heap.size:=hE.lt (q:=(g0+1,xBox _)) (by simp;rfl);have c0:=cell_of_one (hE.kept (g0,Am b) (by simp));obtain⟨x0,x1,x2,x3,x4,x5,x6,x7,_⟩:=Ab (hE.kept _ (AC));have hL:=Db 14 o n (by decide) t x y ao 1 cap p wc;rw[if_pos (by decide)] at hL;go_wp2_with fail;refine hL.mono ?_;rintro e w4 ⟨rfl,ak⟩;have a7:=hE.call ak;clear l0 l1 c0 x0 x1 x2 x3 x4 x5 x6 x7 hL hE hcut ak;have l0:g0<w4.heap.size:=a7.lt (q:=(g0,Am b)) (by simp);have l1:g0+1<w4.heap.size:=a7.lt (q:=(g0+1,xBox _)) (by simp;rfl);have c0:=cell_of_one (a7.kept (g0,Am b) (by simp));obtain⟨x0,x1,x2,x3,x4,x5,x6,x7,_⟩:=Ab (a7.kept _ (AC));have a4:=Z0 o n t a a0;by_cases h5:5<a0
  .have ai:(5:Int)<(a0:Int):=by omega
   have a8:Bo (a0+1) (.mk 14 o n t [a])=true:=by rw[a4];simpa using h5
   clear a4 h5;go_wp2_with fail;refine (put_l a7.wr [40] (by simp)).mono ?_;rintro e w5 ⟨rfl,l5,am,h5,al⟩;have aa:=a7.step h5 al;clear l0 l1 c0 x0 x1 x2 x3 x4 x5 x6 x7;have l0:g0<w5.heap.size:=aa.lt (q:=(g0,Am b)) (by simp);have l1:g0+1<w5.heap.size:=aa.lt (q:=(g0+1,xBox _)) (by simp;rfl);have c0:=cell_of_one (aa.kept (g0,Am b) (by simp));obtain⟨x0,x1,x2,x3,x4,x5,x6,x7,_⟩:=Ab (aa.kept _ (AC));go_wp2_with fail;refine (put_l aa.wr [33] (by simp)).mono ?_;rintro e w6 ⟨rfl,l6,ae,h6,ag⟩;have a3:=aa.step h6 ag;clear l0 l1 c0 x0 x1 x2 x3 x4 x5 x6 x7;have l0:g0<w6.heap.size:=a3.lt (q:=(g0,Am b)) (by simp);have l1:g0+1<w6.heap.size:=a3.lt (q:=(g0+1,xBox _)) (by simp;rfl);have c0:=cell_of_one (a3.kept (g0,Am b) (by simp));obtain⟨x0,x1,x2,x3,x4,x5,x6,x7,_⟩:=Ab (a3.kept _ (AC));obtain⟨g,o',u0,u1,u2,u3,u4,u5,u6,u7,rfl,hg,⟨e0,e1,e2,e3,e4,e5,e6,e7⟩,ab⟩:=ad 0 a w6 rfl a3.fw;simp only[Nat.zero_mul,Nat.add_zero] at e0 e1 e2 e3 e4 e5 e6 e7;have hC:=aj 5 l6 tabs _ w6.drew (by omega) h6.drew (ab.since (Since.drewN _ w6 1));clear ab;rcases hqa:gE a with _ | za
   .rw[hqa] at hC
    go_upto_region 26 with fail
    go_region_with (go_at_call 156;refine hC.mono ?_;rintro e w7 ⟨rfl,l7,a5,h7,a9⟩;refine skip_way w7 (λ _=>leave1P h7 (by simp) (λ l8 w8 h8 hf8=>show WPost base b l tabs w res _ _ by rw[a6.out,hqa];exact⟨rfl,l8,a5,h8,(a3.fw.trans (AZ 1 a9)).trans hf8⟩)) ?_)
    all_goals trivial
   .rw[hqa] at hC
    go_upto_region 26 with fail
    go_region_with (go_at_call 156;refine hC.mono ?_;rintro e w7 ⟨rfl,l7,ah,h7,a9⟩)
    all_goals
     go_wp2;exact leave1 rfl h7 (by simp) (λ l8 w8 hw8 h8 hf8=>show WPost base b l tabs w res _ _ by rw[a6.out,hqa,Option.map_some,a8];exact⟨rfl,l8,by simpa [withinS] using ((am.trans ae).trans ah).trans hw8,h8,(a3.fw.trans (AZ 1 a9)).trans hf8⟩)
  .have ai:¬(5:Int)<(a0:Int):=by omega
   have a8:Bo (a0+1) (.mk 14 o n t [a])=false:=by rw[a4];simpa using h5
   clear a4 h5;go_wp2_with fail;refine (put_l a7.wr [33] (by simp)).mono ?_;rintro e w6 ⟨rfl,l6,ae,h6,ag⟩;have a3:=a7.step h6 ag;clear l0 l1 c0 x0 x1 x2 x3 x4 x5 x6 x7;have l0:g0<w6.heap.size:=a3.lt (q:=(g0,Am b)) (by simp);have l1:g0+1<w6.heap.size:=a3.lt (q:=(g0+1,xBox _)) (by simp;rfl);have c0:=cell_of_one (a3.kept (g0,Am b) (by simp));obtain⟨x0,x1,x2,x3,x4,x5,x6,x7,_⟩:=Ab (a3.kept _ (AC));obtain⟨g,o',u0,u1,u2,u3,u4,u5,u6,u7,rfl,hg,⟨e0,e1,e2,e3,e4,e5,e6,e7⟩,ab⟩:=ad 0 a w6 rfl a3.fw;simp only[Nat.zero_mul,Nat.add_zero] at e0 e1 e2 e3 e4 e5 e6 e7;have hC:=aj 5 l6 tabs _ w6.drew (by omega) h6.drew (ab.since (Since.drewN _ w6 1));clear ab;rcases hqa:gE a with _ | za
   .rw[hqa] at hC
    go_upto_region 26 with fail
    go_region_with (go_at_call 156;refine hC.mono ?_;rintro e w7 ⟨rfl,l7,a5,h7,a9⟩;refine skip_way w7 (λ _=>leaveP (show WPost base b l tabs w res _ _ by rw[a6.out,hqa];exact⟨rfl,l7,a5,h7,a3.fw.trans (AZ 1 a9)⟩)) ?_)
    all_goals trivial
   .rw[hqa] at hC
    go_upto_region 26 with fail
    go_region_with (go_at_call 156;refine hC.mono ?_;rintro e w7 ⟨rfl,l7,ah,h7,a9⟩)
    all_goals
     go_wp2;exact leave0 rfl (show WPost base b l tabs w res _ _ by rw[a6.out,hqa,Option.map_some,a8];exact⟨rfl,l7,by simpa [withinS] using ae.trans ah,h7,a3.fw.trans (AZ 1 a9)⟩)
end
section
open Go.RowKit
theorem G2{base:Nat}{e:GE}{ss:List GS}(hX:Dc base b e)(hB:Kj base b ss){l:AQ}{tabs:Nat}(hd:tabs+1+D0 ss<=1099511627776)(hW:Wr base b l tabs w)(hx:IsGE (λ k=>k<base) w e cs)(hv:B1 (λ k=>k<base) w ss v) :
  AA 155 #[Bh b,.agg cs.toArray,v] w λ r w'=>WPost base b l tabs w ((gE e).bind λ x=>(gBlk (gSts ss (indT tabs)) (indT tabs) ss.isEmpty).map λ y=>x ++ ([32] ++ y)) r w':=by
 obtain⟨res,a0⟩:∃res:Option (List UInt8),Aside (res=(gE e).bind λ x=>(gBlk (gSts ss (indT tabs)) (indT tabs) ss.isEmpty).map λ y=>x ++ ([32] ++ y)):=⟨_,show _=_ from rfl⟩;rw[<-a0.out]
 match cs,hx.len,hx with
 | [c0,c1,c2,c3,c4,c5,c6,c7],_,hx=>
 have hE:=(BA hW).alloc #[c0,c1,c2,c3,c4,c5,c6,c7] 48 (by decide);clear hW;go_enter func155,ntmps155;go_wp2_with fail;generalize w.alloc (.cells #[c0,c1,c2,c3,c4,c5,c6,c7] 48)=w1 at *;generalize w.heap.size=g at *;have hC:=hX.top hE.wr (hx.since hE.fw.since);have a8:=hE.fw;refine hC.mono ?_;rcases hq:gE e with _ | x
 .rintro r w3 ⟨rfl,l3,a3,h3,a5⟩;refine⟨rfl,?_⟩;rw[a0.out,hq];exact⟨rfl,l3,a3,h3,a8.trans a5⟩
 rintro r w3 ⟨rfl,l3,aa,h3,a5⟩;clear hC hE;go_wp2_with fail;refine (put_l h3 [32] (by simp)).mono ?_;rintro r w4 ⟨rfl,l4,a9,h4,ab⟩;have a7:=(a8.trans a5).trans ab;have hC:=hB l4 tabs v w4 hd h4 (hv.since a7.since);go_wp2_with fail;refine hC.mono ?_;rcases hqb:gBlk (gSts ss (indT tabs)) (indT tabs) ss.isEmpty with _ | y
 .rintro r w5 ⟨rfl,l5,a4,h5,a6⟩;refine⟨rfl,?_⟩;rw[a0.out,hq,hqb];exact⟨rfl,l5,a4,h5,a7.trans a6⟩
 .rintro r w5 ⟨rfl,l5,ad,h5,a6⟩;go_wp2
  go_end0
  rw[a0.out,hq,hqb];exact⟨rfl,l5,by simpa using (aa.trans a9).trans ad,h5,a7.trans a6⟩
theorem IsGE.shows{B:AS}{e:GE}(h:IsGE B w e cs):∃(k o n:Int) (t:ByteArray) (x:Int) (y:ByteArray) (a:Option Addr) (m q:Nat) (p:Int),cs=[iv k,iv o,iv n,.string t,iv x,.string y,.slice a m q,iv p]:=by
 obtain⟨k,o,n,t,args⟩:=e;rw[IsGE] at h;obtain⟨x,p,y,sl,row,rfl,hr,_⟩:=h;obtain⟨ao,cap,rfl,_⟩:=hr.slice;exact⟨_,_,_,_,_,_,_,_,_,_,rfl⟩
theorem Qu(a c:AQ):((⟨a.toArray⟩ ++ ⟨c.toArray⟩:ByteArray))=⟨(a ++ c).toArray⟩:=by
 apply ByteArray.ext;simp[ByteArray.data_append]
theorem Ch(h:gName x=true):x.length<=16:=by
 cases x with
 | nil=>simp
 | cons c r=>simp[gName,wordB] at h;simp;omega
abbrev gsBox(k:Int)(n:AQ)(x:Int)(f:Bool)(y:Int)(s1 s2 s3:Value)(p:Int):Array Value:=#[iv k,.string ⟨n.toArray⟩,iv x,.bool f,iv y,s1,s2,s3,iv p]
abbrev sks(g0:Nat)(S X:Array Value):List (Nat × Obj):=[(g0+1,xBox X),(g0,sBox S)]
theorem In.sboxes{base:Nat}{l:AQ}{tabs:Nat}(h:Wr base b l tabs w)(S X:Array Value):In base b (sks w.heap.size S X) l tabs w ((w.alloc (sBox S)).alloc (xBox X)):=by
 have:=((BA h).alloc S 46 (by decide)).alloc X 48 (by decide);simpa [sks] using this
theorem S5{base:Nat}{k:Int}{n:AQ}{es:List GE}{bo el:List GS}{l:AQ}{tabs:Nat}(hW:Wr base b l tabs w)(hx:IsGS (λ k=>k<base) w (.mk k n es bo el) cs)(h1:es.length≠1)(h2:es.length≠2\/k≠2) :
  AA 128 #[Bh b,.agg cs.toArray] w λ r w'=>WPost base b l tabs w none r w':=by
 rw[IsGS] at hx;obtain⟨x,y,p,f,s1,s2,s3,r1,r2,r3,rfl,a4,a6,a0,ab,a5,a7⟩:=hx;obtain⟨a1,q1,rfl,a9⟩:=a4.slice;obtain⟨a2,q2,rfl,aa⟩:=a0.slice;obtain⟨a3,q3,rfl,a8⟩:=a5.slice;have hE:=(BA hW).alloc (gsBox k n x f y (.slice a1 es.length q1) (.slice a2 bo.length q2) (.slice a3 el.length q3) p) 46 (by decide);have e1:((es.length:Int) == 1)=false:=by rw[beq_eq_false_iff_ne];omega
 clear a4 a6 a0 ab a5 a7 a9 aa a8 hW;generalize es.length=ne at *;by_cases e2:ne=2
 .have e3:(k == 2)=false:=by rw[beq_eq_false_iff_ne];omega
  subst e2;go_enter func128,ntmps128;go_wp2_with fail;refine (need_no _).mono ?_;rintro e w3 ⟨rfl,rfl⟩;exact⟨rfl,rfl,l,tabs,hE.wr,hE.fw⟩
 .have e3:((ne:Int) == 2)=false:=by rw[beq_eq_false_iff_ne];omega
  go_enter func128,ntmps128;go_wp2_with fail;refine (need_no _).mono ?_;rintro e w3 ⟨rfl,rfl⟩;exact⟨rfl,rfl,l,tabs,hE.wr,hE.fw⟩
end
end Go.Proofs.YtpckmjfabiallaaGreatDoor
