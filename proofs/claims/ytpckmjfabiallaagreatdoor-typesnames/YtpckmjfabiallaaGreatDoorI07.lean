/- Texts of ours, joined. -/
import Derived.Test.YtpckmjfabiallaaGreatDoorI04
import Derived.Test.YtpckmjfabiallaaGreatDoorI03
set_option linter.unusedVariables false
set_option linter.unusedSimpArgs false
set_option maxRecDepth 100000
set_option maxHeartbeats 16000000
namespace Go.Proofs.YtpckmjfabiallaaGreatDoor
variable{b m:Nat}{cs:List Value}{v:Value}{w w' w1 w2:World}{x:List UInt8}
open List
open Tryz
section
open Go.RowKit
open Px (opL opX dg)
theorem need_ok(w:World):AA 89 #[.bool true] w λ e w'=>e=.returned (.tuple #[])/\w'=w:=by
 go_enter func89,ntmps89;go_wp2
 go_end0
 exact⟨rfl,rfl⟩
theorem need_no(w:World):AA 89 #[.bool false] w λ e w'=>e=.panicked C0/\w'=w:=by
 go_enter func89,ntmps89;go_wp2;exact⟨rfl,rfl,rfl⟩
def Ju(w:World)(r:Option (List UInt8))(e:Ending)(w':World):Prop:=
 match r with
 | some x=>e=.returned (.string ⟨x.toArray⟩)/\Below w w w'
 | none=>e=.panicked C0/\Below w w w'
theorem Dc(x:AQ)(w:World)(hs:x.length<=maxLen):AA 91 #[.string ⟨x.toArray⟩] w λ e w'=>e=(if gName x then .returned (.string ⟨x.toArray⟩) else .panicked C0)/\w'=w:=by
 have h1:=Zv ⟨x.toArray⟩ w (by show x.toArray.size<=_;simpa using hs);simp only[toList_toArray] at h1;have h2:=E0 x w;unfold gName;rcases hw:wordB x with _ | _
 .rw[hw] at h1;go_enter func91,ntmps91;go_wp2_with (go_at_call 125;refine h1.mono ?_;rintro e w' ⟨rfl,rfl⟩);go_wp2_with (go_at_call 89;refine (need_no _).mono ?_;rintro e w' ⟨rfl,rfl⟩);exact⟨rfl,rfl,rfl⟩
 .rw[hw] at h1;rcases hr:Px.reserved x with _ | _
  .rw[hr] at h2;go_enter func91,ntmps91;go_wp2_with (go_at_call 125;refine h1.mono ?_;rintro e w' ⟨rfl,rfl⟩);go_wp2_with (go_at_call 126;refine h2.mono ?_;rintro e w' ⟨rfl,rfl⟩);go_wp2_with (go_at_call 89;refine (need_ok _).mono ?_;rintro e w' ⟨rfl,rfl⟩);go_ret;exact⟨rfl,rfl⟩
  .rw[hr] at h2;go_enter func91,ntmps91;go_wp2_with (go_at_call 125;refine h1.mono ?_;rintro e w' ⟨rfl,rfl⟩);go_wp2_with (go_at_call 126;refine h2.mono ?_;rintro e w' ⟨rfl,rfl⟩);go_wp2_with (go_at_call 89;refine (need_no _).mono ?_;rintro e w' ⟨rfl,rfl⟩);exact⟨rfl,rfl,rfl⟩
theorem I6(x:AQ)(w:World)(hs:x.length<=maxLen):AA 92 #[.string ⟨x.toArray⟩] w λ e w'=>e=(if gType x then .returned (.string ⟨x.toArray⟩) else .panicked C0)/\w'=w:=by
 have h1:=stype_any ⟨x.toArray⟩ w (by show x.toArray.size<=_;simpa using hs);simp only[toList_toArray] at h1;rcases hw:gType x with _ | _
 .rw[hw] at h1;go_enter func92,ntmps92;go_wp2_with (go_at_call 59;refine h1.mono ?_;rintro e w' ⟨rfl,rfl⟩);go_wp2_with (go_at_call 89;refine (need_no _).mono ?_;rintro e w' ⟨rfl,rfl⟩);exact⟨rfl,rfl,rfl⟩
 .rw[hw] at h1;go_enter func92,ntmps92;go_wp2_with (go_at_call 59;refine h1.mono ?_;rintro e w' ⟨rfl,rfl⟩);go_wp2_with (go_at_call 89;refine (need_ok _).mono ?_;rintro e w' ⟨rfl,rfl⟩);go_ret;exact⟨rfl,rfl⟩
theorem Wc:∀(f u:Nat),u<f->Lib.decDigits u=Px.dgF f u
 | 0,u,h=>by omega
 | f+1,u,h=>by
  rw[Lib.decDigits,Px.dgF];split
  .rfl
  .rw[Wc f (u / 10) (by omega)]
theorem Am9(n:Int)(h:0<=n):Lib.itoa n=dg n.toNat:=by
 rw[Lib.itoa,if_neg (by omega),dg];exact Wc _ _ (by omega)
theorem Wd:∀(f u k:Nat),u<10 ^ k->1<=k->(Px.dgF f u).length<=k
 | 0,u,k,_,_=>by simp[Px.dgF]
 | f+1,u,k,h,hk=>by
  rw[Px.dgF];split
  .simpa using hk
  .rename_i h2;obtain⟨j,rfl⟩:∃j,k=j+1:=⟨k - 1,by omega⟩;have hj:1<=j:=by
    rcases Nat.eq_zero_or_pos j with rfl | hj
    .simp at h;omega
    .exact hj
   rw[Nat.pow_succ] at h;have:=Wd f (u / 10) j (by omega) hj;simp;omega
theorem Ab3(n:Nat)(h:n<=9223372036854775807):(dg n).length<=19:=Wd _ _ 19 (by omega) (by omega)
theorem Lc{base:Nat}(n:Int)(w:World)(ht:Tb base w)(h1:n<=9223372036854775807):AA 61 #[iv n] w λ e w'=>Ju w (if 0<=n then some (dg n.toNat) else none) e w':=by
 by_cases h0:0<=n
 .rw[if_pos h0];have hI:=Tryz.strconv_Itoa n (by omega) h1 w ht.here;rw[Am9 n h0] at hI;have hq:(decide (n ≥ 0))=true:=by simpa using h0
  go_enter func61,ntmps61;go_wp2_with (go_at_call 89;refine (need_ok _).mono ?_;rintro e w' ⟨rfl,rfl⟩);go_wp2_with (go_at_call 90;refine hI.mono ?_;rintro e w' ⟨rfl,k,os,rfl⟩);go_ret;exact⟨rfl,Lib.below_grow _ _ (AD _) k os⟩
 .rw[if_neg h0];have hq:(decide (n ≥ 0))=false:=by simpa using h0
  go_enter func61,ntmps61;go_wp2_with (go_at_call 89;refine (need_no _).mono ?_;rintro e w' ⟨rfl,rfl⟩);exact⟨rfl,rfl,AF _ _⟩
theorem Xy(n:Int)(w:World):AA 180 #[iv n] w λ e w'=>Ju w (if 0<=n/\n<=1 then some (if n=1 then [116,114,117,101] else [102,97,108,115,101]) else none) e w':=by
 by_cases h0:n=0
 .subst h0;go_enter func180,ntmps180;go_wp2_with (go_at_call 89;refine (need_ok _).mono ?_;rintro e w' ⟨rfl,rfl⟩);go_ret;exact⟨rfl,AF _ _⟩
 .by_cases h1:n=1
  .subst h1;go_enter func180,ntmps180;go_wp2_with (go_at_call 89;refine (need_ok _).mono ?_;rintro e w' ⟨rfl,rfl⟩);go_ret;exact⟨rfl,AF _ _⟩
  .rw[if_neg (by omega)];have q0:(n == 0)=false:=by simpa using h0
   have q1:(n == 1)=false:=by simpa using h1
   go_enter func180,ntmps180;go_wp2_with (go_at_call 89;refine (need_no _).mono ?_;rintro e w' ⟨rfl,rfl⟩);exact⟨rfl,rfl,AF _ _⟩
theorem T2(x:AQ)(w:World)(hs:x.length<=maxLen):AA 181 #[.string ⟨x.toArray⟩] w λ e w'=>Ju w (if plainB x then some (Fi x) else none) e w':=by
 have h1:=Xp ⟨x.toArray⟩ w (by show x.toArray.size<=_;simpa using hs);simp only[toList_toArray] at h1;rcases hw:plainB x with _ | _
 .rw[hw] at h1;go_enter func181,ntmps181;go_wp2_with (go_at_call 210;refine h1.mono ?_;rintro e w' ⟨rfl,rfl⟩);go_wp2_with (go_at_call 89;refine (need_no _).mono ?_;rintro e w' ⟨rfl,rfl⟩);exact⟨rfl,rfl,AF _ _⟩
 .rw[hw] at h1;have hl:x.length<=256:=by simp[plainB] at hw;exact hw.1
  have hQ:=Xr ⟨x.toArray⟩ w (by show x.toArray.size<=_;simp;omega);simp only[toList_toArray] at hQ;go_enter func181,ntmps181;go_wp2_with (go_at_call 210;refine h1.mono ?_;rintro e w' ⟨rfl,rfl⟩);go_wp2_with (go_at_call 89;refine (need_ok _).mono ?_;rintro e w' ⟨rfl,rfl⟩);go_wp2_with (go_at_call 211;refine hQ.mono ?_;rintro e w' ⟨rfl,hb⟩);go_ret;exact⟨rfl,hb⟩
theorem We(o:Nat)(h1:1<=o)(h2:o<=13)(w:World):AA 209 #[iv o] w λ e w'=>e=.returned (.tuple #[.string ⟨(opX o).toArray⟩,iv (opL o - 1:Nat)])/\w'=w:=by
 rcases Px.op_cases h1 h2 with rfl | rfl | rfl | rfl | rfl | rfl | rfl | rfl | rfl | rfl | rfl | rfl | rfl
 all_goals
  go_enter func209,ntmps209;go_wp2
  go_ret2
  exact⟨rfl,rfl⟩
theorem An0{o:Int}(h:gL o=0):¬(1<=o/\o<=13):=by
 intro ⟨h1,h2⟩;unfold gL at h;rw[if_pos (by omega)] at h;have:=(Px.opL_pos (o:=o.toNat) (by omega) (by omega)).1;omega
theorem Ab4{o:Int}(h:gL o≠0):∃n:Nat,o=n/\1<=n/\n<=13:=by
 unfold gL at h;split at h
 .rename_i h0;refine⟨o.toNat,by omega,?_⟩;unfold opL at h
  (repeat' split at h) <;> omega
 .exact absurd rfl h
theorem An1(o:Int)(h:gL o=0)(w:World):AA 209 #[iv o] w λ e w'=>e=.panicked C0/\w'=w:=by
 have h0:=An0 h;have q1:(o == 1)=false:=by simp;omega
 have q2:(o == 2)=false:=by simp;omega
 have q3:(o == 3)=false:=by simp;omega
 have q4:(o == 4)=false:=by simp;omega
 have q5:(o == 5)=false:=by simp;omega
 have q6:(o == 6)=false:=by simp;omega
 have q7:(o == 7)=false:=by simp;omega
 have q8:(o == 8)=false:=by simp;omega
 have q9:(o == 9)=false:=by simp;omega
 have a5:(o == 10)=false:=by simp;omega
 have a4:(o == 11)=false:=by simp;omega
 have a0:(o == 12)=false:=by simp;omega
 have a3:(o == 13)=false:=by simp;omega
 clear h0 h;go_enter func209,ntmps209;go_wp2;exact⟨rfl,rfl,rfl⟩
def nArgs(k:Int)(n:Nat):Nat:=if k=7 then n else if k=12\/k=15 then 2 else if k=13\/k=14 then 1 else 0
abbrev geBox(k o n:Int)(t:AQ)(x:Int)(y:ByteArray)(sl:Value)(p:Int):Array Value:=#[iv k,iv o,iv n,.string ⟨t.toArray⟩,iv x,.string y,sl,iv p]
theorem Cj(k o n:Int)(t:AQ)(x:Int)(y:ByteArray)(ao:Option Addr)(len cap:Nat)(p:Int)(w:World) :
  AA 178 #[.agg (geBox k o n t x y (.slice ao len cap) p)] w λ e w'=>e=.returned (iv (nArgs k len))/\Below w w w':=by
 have hb:Below w w (w.alloc (.cells (geBox k o n t x y (.slice ao len cap) p) 48)):=(AF _ _).alloc (AD _) _;have hN:Aside (nArgs k len=_):=rfl;go_enter func178,ntmps178;go_wp2
 all_goals
  go_ret;refine⟨?_,hb⟩;simp only[beq_iff_eq,beq_eq_false_iff_ne,ne_eq] at *;unfold nArgs
  (repeat' split) <;> first | rfl | (exfalso;omega)
theorem Nn(o n:Int)(t:AQ)(x:Int)(y:ByteArray)(ao:Option Addr)(len cap:Nat)(p:Int)(w:World) :
  AA 179 #[.agg (geBox 15 o n t x y (.slice ao len cap) p)] w λ e w'=>e=(if gL o=0 then .panicked C0 else .returned (iv (gL o - 1:Nat)))/\Below w w w':=by
 have hb:Below w w (w.alloc (.cells (geBox 15 o n t x y (.slice ao len cap) p) 48)):=(AF _ _).alloc (AD _) _;by_cases h:gL o=0
 .rw[if_pos h];have hO:=An1 o h;go_enter func179,ntmps179;go_wp2_with (go_at_call 209;refine (hO _).mono ?_;rintro e w' ⟨rfl,rfl⟩);exact⟨rfl,rfl,hb⟩
 .rw[if_neg h];obtain⟨o,rfl,h1,h2⟩:=Ab4 h;have hO:=We o h1 h2;rw[gL_nat];generalize hv:(opL o - 1:Nat)=q at *;generalize hx:(opX o).toArray=xx at *;go_enter func179,ntmps179;go_wp2_with (go_at_call 209;refine (hO _).mono ?_;rintro e w' ⟨rfl,rfl⟩);go_wp2;go_ret;exact⟨rfl,hb⟩
theorem Dd(k o n:Int)(hk:k≠15)(t:AQ)(x:Int)(y:ByteArray)(ao:Option Addr)(len cap:Nat)(p:Int)(w:World) :
  AA 179 #[.agg (geBox k o n t x y (.slice ao len cap) p)] w λ e w'=>e=.returned (iv (if k=13\/k=14 then 5 else 6))/\Below w w w':=by
 have hb:Below w w (w.alloc (.cells (geBox k o n t x y (.slice ao len cap) p) 48)):=(AF _ _).alloc (AD _) _;have a0:(k == 15)=false:=by simpa using hk
 go_enter func179,ntmps179;go_wp2
 all_goals
  go_ret;refine⟨?_,hb⟩;simp only[beq_iff_eq,beq_eq_false_iff_ne,ne_eq] at *
  (repeat' split) <;> first | rfl | (exfalso;omega)
theorem leave0{fn:Func}{tmps:Array Value}{R:Ending->World->Prop}(hr:fn.results=#[])(h:R (.returned (.tuple #[])) w):Leaves prog fn tmps R [] .returning w:=⟨_,results_none hr _ _ _,h⟩
theorem leaveP{fn:Func}{tmps:Array Value}{R:Ending->World->Prop}{c:List PanicEntry}(h:R (.panicked c) w):Leaves prog fn tmps R [] (.panicking c) w:=h
abbrev Wg(b:Nat)(x:AQ):Deferred:={ target:=.fn (.func 60) #[],args:=#[Bg b,.string ⟨x.toArray⟩] }
theorem Le(b:Nat)(x:AQ)(w:World):(invoke (.fn (.func 60) #[]) #[Bg b,.string ⟨x.toArray⟩]).run prog w=.ok (.enter 60 #[Bg b,.string ⟨x.toArray⟩]) w:=by simp[go_sem]
theorem leave1{fn:Func}{tmps:Array Value}{R:Ending->World->Prop}{base:Nat}{l:AQ}{tabs:Nat}(hr:fn.results=#[])(hW:Wr base b l tabs w)(hx:x.length<=1099511627776)
  (h:∀l' w',Bk l x l'->Wr base b l' tabs w'->FW base b w w'->R (.returned (.tuple #[])) w'):Leaves prog fn tmps R [Wg b x] .returning w:=by
 refine leaves_cons (by simp) (Le b x w) ?_;refine (Z6 hW x hx .returning).mono ?_;rintro e u' w' ⟨rfl,rfl,l',h1,h2,h3⟩;exact leave0 hr (h l' w' h1 h2 h3)
theorem leave1P{fn:Func}{tmps:Array Value}{R:Ending->World->Prop}{base:Nat}{l:AQ}{tabs:Nat}(hW:Wr base b l tabs w)(hx:x.length<=1099511627776)
  (h:∀l' w',Wr base b l' tabs w'->FW base b w w'->R (.panicked C0) w'):Leaves prog fn tmps R [Wg b x] (.panicking C0) w:=by
 refine leaves_cons (by simp) (Le b x w) ?_;refine (Z6 hW x hx (.panicking C0)).mono ?_;rintro e u' w' ⟨rfl,rfl,l',h1,h2,h3⟩;exact leaveP (h l' w' h2 h3)
def Az1(fn:Func)(R:Ending->World->Prop):Exit->Act->World->Prop
 | .panic c,a,w=>∀tmps,Leaves prog fn tmps R a.defers (.panicking c) w
 | e,a,w=>bodyPostD prog fn R e a w
theorem A8{f:FuncId}{fn:Func}{c:Code}{args:Array Value}{R:Ending->World->Prop}(hf:prog.funcs[f]?=some fn)(hb:fn.body=some c)
  (h:c.wp prog (Az1 fn R) { tmps:=args ++ Array.replicate (fn.ntmps - args.size) undef,defers:=[] } w):AA f args w R:=by
 refine calls_of_wp_defers hf hb (wp_mono h ?_);intro e a w h;cases e with
 | panic c=>exact h a.tmps
 | normal=>exact h
 | ret=>exact h
 | exit _=>exact h
 | goto _=>exact h
 | outgrown=>exact h
mutual
def OkE:GE->Prop
 | .mk k o n t args=>n<=9223372036854775807/\t.length<=maxLen/\OkEs args
def OkEs:List GE->Prop
 | []=>True
 | e :: r=>OkE e/\OkEs r
end
abbrev Am(b:Nat):Obj:=.cells #[Bg b] 108 (0,0)
abbrev xBox(cs:Array Value):Obj:=.cells cs 48 (0,0)
structure In(base b:Nat)(ks:List (Nat × Obj))(l:AQ)(tabs:Nat)(w w':World):Prop where
 wr:Wr base b l tabs w'
 kept:∀q∈ks,w'.heap[q.1]?=some q.2
 fine:∀q∈ks,q.1≠b/\∀c fz,q.2≠.cells c 5 fz
 fw:FW base b w w'
theorem In.start{base:Nat}{l:AQ}{tabs:Nat}(h:Wr base b l tabs w):In base b [] l tabs w w:=⟨h,by simp,by simp,AW _ _ _⟩
abbrev AY:=@In.start
theorem In.step{base:Nat}{ks:List (Nat × Obj)}{l l':AQ}{tabs a0:Nat}{w'':World}(h:In base b ks l tabs w w')(hw:Wr base b l' a0 w'')(hf:FW base b w' w''):In base b ks l' a0 w w'':=
 ⟨hw,λ q hq=>hf.kept q.1 q.2 (h.kept q hq) (by simpa using (h.fine q hq).1) (h.fine q hq).2,h.fine,h.fw.trans hf⟩
theorem In.call{base:Nat}{ks:List (Nat × Obj)}{l:AQ}{tabs:Nat}{w'':World}(h:In base b ks l tabs w w')(hb:Below w' w' w''):In base b ks l tabs w w'':=h.step (h.wr.call hb) (FW.of_below hb h.wr.base)
theorem In.drew{base:Nat}{ks:List (Nat × Obj)}{l:AQ}{tabs:Nat}(h:In base b ks l tabs w w'):In base b ks l tabs w w'.drew:=h.call ⟨rfl,rfl,rfl,AD _,λ _ _=>rfl⟩
theorem In.alloc{base:Nat}{ks:List (Nat × Obj)}{l:AQ}{tabs:Nat}(h:In base b ks l tabs w w')(cs:Array Value)(T:TypeId)(hT:T≠5):In base b ((w'.heap.size,.cells cs T (0,0)) :: ks) l tabs w (w'.alloc (.cells cs T (0,0))):=by
 have a0:=h.wr.lt;refine⟨h.wr.alloc _,?_,?_,h.fw.alloc h.wr.base _⟩
 .intro q hq;rcases mem_cons.1 hq with rfl | hq
  .exact heap_new w' _
  .have:=h.kept q hq;exact (Al (AB this).1).trans this
 .intro q hq;rcases mem_cons.1 hq with rfl | hq
  .exact⟨by show w'≠b;omega,λ c fz e=>hT (by injection e)⟩
  .exact h.fine q hq
theorem In.lt{base:Nat}{ks:List (Nat × Obj)}{l:AQ}{tabs:Nat}(h:In base b ks l tabs w w'){q:Nat × Obj}(hq:q∈ks):q.1<w'.heap.size:=(AB (h.kept q hq)).1
abbrev eks(b g0:Nat)(cs:Array Value):List (Nat × Obj):=[(g0+1,xBox cs),(g0,Am b)]
theorem In.boxes{base:Nat}{l:AQ}{tabs:Nat}(h:Wr base b l tabs w)(cs:Array Value):In base b (eks b w cs) l tabs w ((w.alloc (Am b)).alloc (xBox cs)):=by
 have:=((AY h).alloc #[Bg b] 108 (by decide)).alloc cs 48 (by decide);simpa [eks] using this
abbrev AZ:=@In.boxes
theorem T7{base:Nat}{k o n:Int}{t:AQ}{args:List GE}{a0:Nat}{l:AQ}{tabs:Nat}(hW:Wr base b l tabs w)(hx:IsGE (λ k=>k<base) w (.mk k o n t args) cs)(hc:args.length≠nArgs k args.length) :
  AA 156 #[Bg b,.agg cs.toArray,iv a0] w λ r w'=>WPost base b l tabs w none r w':=by
 rw[IsGE] at hx;obtain⟨x,p,y,sl,row,rfl,hr,ha⟩:=hx;obtain⟨ao,cap,rfl,hm⟩:=hr.slice;have hE:=AZ hW (geBox k o n t x y (.slice ao args.length cap) p);have hA:=Cj k o n t x y ao args.length cap p;have a5:((args.length:Int) == ((nArgs k args.length:Nat):Int))=false:=by simp;omega
 generalize hnn:nArgs k args.length=nn at *;generalize hll:args.length=ll at *;clear ha hr hm hc hW;refine A8 func156 rfl ?_;simp only[ntmps156,size_toArray,length_cons,length_nil,Nat.reduceAdd,Nat.reduceSub,Array.replicate_succ,Array.replicate_zero,push_toArray,append_toArray,nil_append,cons_append]
 go_upto_region 1 with fail
 generalize ((w.alloc (Am b)).alloc (xBox (geBox k o n t x y (.slice ao ll cap) p)))=w2 at *;generalize w.heap.size=g0 at *;have l0:g0<w2:=hE.lt (q:=(g0,Am b)) (by simp);have l1:g0+1<w2:=hE.lt (q:=(g0+1,xBox _)) (by simp;rfl);obtain⟨x0,x1,x2,x3,x4,x5,x6,x7,_⟩:=Ab (hE.kept _ (AC))
 go_region_with (first
  |(go_at_call 178;refine (hA _).mono ?_;rintro e w3 ⟨rfl,a4⟩;have a3:=hE.drew.call a4;have l3:g0+1<w3:=a3.lt (q:=(g0+1,xBox _)) (by simp;rfl);obtain⟨y0,y1,y2,y3,y4,y5,y6,y7,_⟩:=Ab (a3.kept _ (AC)))
  |(go_at_call 89;refine (need_no _).mono ?_;rintro e w4 ⟨rfl,rfl⟩;refine skip_way w4 (λ _=>leaveP ⟨rfl,l,tabs,a3.wr,a3.fw⟩) ?_))
 all_goals trivial
def De(base b:Nat)(e:GE):Prop:=∀(least:Nat) (l:AQ) (tabs:Nat) (cs:AR) (w:World),least<=6->Wr base b l tabs w->IsGE (λ k=>k<base) w e cs ->
 AA 156 #[Bg b,.agg cs.toArray,iv least] w λ r w'=>WPost base b l tabs w ((gE e).map (withinS (Bn (least+1) e))) r w'
theorem Ab6{k o n:Int}{t:AQ}{args:List GE}(h:gE (.mk k o n t args)=some x):∃xs,gEs args=some xs/\gKS k o n t args xs=some x:=by
 rw[gE] at h;rcases hx:gEs args with _ | xs
 .rw[hx] at h;cases h
 .rw[hx] at h;exact⟨xs,rfl,h⟩
theorem An2{o n:Int}{t:AQ}{args:List GE}{xs:List (List UInt8)}(h:gKS 15 o n t args xs=some x):gL o≠0:=by
 unfold gKS at h;simp only[show ¬((15:Int)=1) by decide,show ¬((15:Int)=2) by decide,show ¬((15:Int)=3) by decide,show ¬((15:Int)=6) by decide,show ¬((15:Int)=7) by decide,show ¬((15:Int)=12) by decide,show ¬((15:Int)=13) by decide,show ¬((15:Int)=14) by decide,if_false,if_true] at h;split at h
 .rename_i h1;exact h1.2
 .cases h
theorem Au6{e:GE}(h:gE e=some x):Bn 1 e=false:=by
 obtain⟨k,o,n,t,args⟩:=e;obtain⟨xs,h1,h2⟩:=Ab6 h;by_cases hk:k=15
 .subst hk;have:=An2 h2;simp[Bn,GE.k,GE.o,this]
 .simp[Bn,GE.k,GE.o,hk]
theorem Au7(e:GE):(gE e).map (withinS (Bn (0+1) e))=gE e:=by
 rcases h:gE e with _ | x
 .rfl
 .rw[show (0+1)=1 from rfl,Au6 h];rfl
theorem De.top{base:Nat}{e:GE}(h:De base b e){l:AQ}{tabs:Nat}(hW:Wr base b l tabs w)(hx:IsGE (λ k=>k<base) w e cs) :
  AA 156 #[Bg b,.agg cs.toArray,iv 0] w λ r w'=>WPost base b l tabs w (gE e) r w':=by
 have:=h 0 l tabs cs w (by omega) hW hx;rw[Au7] at this;exact this
theorem I9{base:Nat}{e:GE}(hX:De base b e){l:AQ}{tabs:Nat}(hW:Wr base b l tabs w)(hx:IsGE (λ k=>k<base) w e cs) :
  AA 154 #[Bg b,.agg cs.toArray] w λ r w'=>WPost base b l tabs w ((gE e).map λ x=>91 :: (x ++ [93])) r w':=by
 match cs,hx.len,hx with
 | [c0,c1,c2,c3,c4,c5,c6,c7],_,hx=>
 have hE:=(AY hW).alloc #[c0,c1,c2,c3,c4,c5,c6,c7] 48 (by decide);clear hW
 go_enter_defers func154,ntmps154
 go_wp2_with fail
 generalize w.alloc (.cells #[c0,c1,c2,c3,c4,c5,c6,c7] 48)=w1 at *;generalize w.heap.size=g at *;refine (put_l hE.wr [91] (by simp)).mono ?_;rintro r w2 ⟨rfl,l2,a8,h2,a5⟩;have a3:=hE.step h2 a5;have lg:g<w2:=a3.lt (q:=(g,_)) (by simp;rfl);obtain⟨x0,x1,x2,x3,x4,x5,x6,x7,_⟩:=Ab (a3.kept _ (AC));have hC:=hX.top h2 (hx.since a3.fw.since);have a6:=a3.fw;clear hE a3 a5;rcases hq:gE e with _ | x
 .rw[hq] at hC;go_wp2_with fail;refine hC.mono ?_;rintro r w3 ⟨rfl,l3,a0,h3,a4⟩;refine leave1P h3 (by simp) ?_;intro l4 w4 h4 hf4;rw[hq];exact⟨rfl,l4,a0,h4,(a6.trans a4).trans hf4⟩
 .rw[hq] at hC;go_wp2_with fail;refine hC.mono ?_;rintro r w3 ⟨rfl,l3,a7,h3,a4⟩;go_wp2;refine leave1 rfl h3 (by simp) ?_;intro l4 w4 hw4 h4 hf4;rw[hq];exact⟨rfl,l4,by simpa using (a8.trans a7).trans hw4,h4,(a6.trans a4).trans hf4⟩
theorem Ja{base:Nat}{e:GE}(hX:De base b e){l:AQ}{tabs:Nat}(hW:Wr base b l tabs w)(hx:IsGE (λ k=>k<base) w e cs) :
  AA 153 #[Bg b,.agg cs.toArray] w λ r w'=>WPost base b l tabs w ((gE e).map λ x=>[32,61,32] ++ (x ++ [59])) r w':=by
 match cs,hx.len,hx with
 | [c0,c1,c2,c3,c4,c5,c6,c7],_,hx=>
 have hE:=(AY hW).alloc #[c0,c1,c2,c3,c4,c5,c6,c7] 48 (by decide);clear hW;go_enter func153,ntmps153;go_wp2_with fail;generalize w.alloc (.cells #[c0,c1,c2,c3,c4,c5,c6,c7] 48)=w1 at *;generalize w.heap.size=g at *;refine (put_l hE.wr [32,61,32] (by simp)).mono ?_;rintro r w2 ⟨rfl,l2,a9,h2,a5⟩;have a3:=hE.step h2 a5;have lg:g<w2:=a3.lt (q:=(g,_)) (by simp;rfl);obtain⟨x0,x1,x2,x3,x4,x5,x6,x7,_⟩:=Ab (a3.kept _ (AC));have hC:=hX.top h2 (hx.since a3.fw.since);have a6:=a3.fw;clear hE a3 a5;rcases hq:gE e with _ | x
 .rw[hq] at hC;go_wp2_with fail;refine hC.mono ?_;rintro r w3 ⟨rfl,l3,a0,h3,a4⟩;refine⟨rfl,?_⟩;rw[hq];exact⟨rfl,l3,a0,h3,a6.trans a4⟩
 .rw[hq] at hC;go_wp2_with fail;refine hC.mono ?_;rintro r w3 ⟨rfl,l3,a8,h3,a4⟩;go_wp2_with fail;refine (put_l h3 [59] (by simp)).mono ?_;rintro r w4 ⟨rfl,l4,a7,h4,aa⟩;go_wp2
  go_end0
  rw[hq];exact⟨rfl,l4,by simpa using (a9.trans a8).trans a7,h4,(a6.trans a4).trans aa⟩
def allS:List (Option (List UInt8))->Option (List (List UInt8))
 | []=>some []
 | x :: r=>x.bind λ y=>(allS r).map λ ys=>y :: ys
theorem Pk:∀l:List GE,gEs l=allS (l.map gE)
 | []=>by simp[gEs,allS]
 | e :: r=>by
  simp only[gEs,map_cons,allS,Pk r];rcases gE e with _ | x <;> rcases allS (r.map gE) with _ | xs <;> rfl
theorem Rp:∀l:List (List UInt8 × List UInt8),Pe l=allS (l.map gSl)
 | []=>by simp[Pe,allS]
 | e :: r=>by
  simp only[Pe,map_cons,allS,Rp r];rcases gSl e with _ | x <;> rcases allS (r.map gSl) with _ | xs <;> rfl
theorem allS_some:∀ys:List (List UInt8),allS (ys.map some)=some ys
 | []=>rfl
 | y :: r=>by simp[allS,allS_some r]
theorem allS_none:∀{xs:List (Option (List UInt8))} {i:Nat},xs[i]?=some none->allS xs=none
 | [],i,h=>by simp at h
 | x :: r,0,h=>by simp at h;subst h;rfl
 | x :: r,i+1,h=>by
  have:=allS_none (xs:=r) (i:=i) (by simpa using h);simp[allS,this]
theorem commas_snoc:∀(ys:List (List UInt8)) (x:AQ),commasS (ys ++ [x])=if ys=[] then x else commasS ys ++ ([44,32] ++ x)
 | [],x=>by simp[commasS]
 | [a],x=>by simp[commasS]
 | a :: c :: r,x=>by
  have:=commas_snoc (c :: r) x;rw[if_neg (by simp)] at this;rw[if_neg (by simp)];simp only[cons_append] at this ⊢;rw[commasS,this,commasS];simp
theorem Ns{xs:List (Option (List UInt8))}{ys:List (List UInt8)}(h:xs.take ys.length=ys.map some)(hx:xs[ys.length]?=some (some x)):xs.take (ys.length+1)=(ys ++ [x]).map some:=by
 rw[take_add_one,h,hx];simp
theorem F8{base K:Nat}{caps:Array Value}{xs:List (Option (List UInt8))}{Inv:World->Prop}{l:AQ}{tabs:Nat}(h:Wr base b l tabs w)
  (hn:xs.length<=9223372036854775807)
  (hK:∀(args:Array Value) (w:World),(callFunc K args).run prog w=.ok (.enter K args) w)
  (hq:∀(i:Nat) (x:Option (List UInt8)) (l1:AQ) (w1:World),xs[i]?=some x->Wr base b l1 tabs w1->Inv w1->AA K (#[iv i] ++ caps) w1 λ e w2=>WPost base b l1 tabs w1 x e w2)
  (hI:∀(w1 w2:World),Inv w1->FW base b w1 w2->Inv w2) (h0:Inv w) :
  AA 93 #[Bg b,iv xs.length,.func (.func K) #[] caps] w λ e w'=>WPost base b l tabs w ((allS xs).map λ ys=>40 :: (commasS ys ++ [41])) e w':=by
 obtain⟨res,a6⟩:∃res,Aside (res=(allS xs).map λ ys=>40 :: (commasS ys ++ [41])):=⟨_,show _=_ from rfl⟩;rw[<-a6.out]
 go_enter_defers func93,ntmps93
 go_wp2_with fail
 refine (put_l h [40] (by simp)).mono ?_;rintro r w2 ⟨rfl,l2,af,h2,ad⟩;have i2:=hI _ _ h0 ad;clear h h0;go_wp2_with fail
 go_loopg [11] xs.length (λ g i wr=>∃(ys:List (List UInt8)) (lk:AQ),ys.length<=xs.length/\g=xs.length - ys.length/\i=iv ys.length/\xs.take ys.length=ys.map some/\Bk l (40 :: commasS ys) lk/\Wr base b lk tabs wr/\FW base b w wr/\Inv wr)
 case atStart=>exact⟨[],l2,by simp,rfl,rfl,by simp,by simpa [commasS] using af,h2,ad,i2⟩
 case round=>
  clear af h2 ad i2;obtain⟨ys,lk,hk,rfl,rfl,a9,ag,h1,ae,i1⟩:=hrel;by_cases hlt:ys.length<xs.length
  .have ab:(ys.length:Int)<(xs.length:Int):=by omega
   obtain⟨x,hx⟩:∃x,xs[ys.length]?=some x:=⟨_,AN hlt⟩;have a3:∀(l3:AQ) (w3:World),Bk lk (if ys=[] then [] else [44,32]) l3->Wr base b l3 tabs w3->FW base b w w3->Inv w3->AA K (#[iv ys.length] ++ caps) w3 λ e w4=>(match x with
     | some y=>e=.returned (.tuple #[])/\∃l4,Bk l (40 :: commasS (ys ++ [y])) l4/\Wr base b l4 tabs w4/\FW base b w w4/\Inv w4
     | none=>e=.panicked C0/\∃l4 a0,Wr base b l4 a0 w4/\FW base b w w4):=by
    intro l3 w3 aa h3 a8 i3;refine (hq ys.length x l3 w3 hx h3 i3).mono ?_;intro e w4 hp;cases x with
    | none=>
     obtain⟨rfl,l4,t4,h4,a4⟩:=hp;exact⟨rfl,l4,t4,h4,a8.trans a4⟩
    | some y=>
     obtain⟨rfl,l4,a7,h4,a4⟩:=hp;refine⟨rfl,l4,?_,h4,a8.trans a4,hI _ _ i3 a4⟩;have:=(ag.trans aa).trans a7;rw[commas_snoc];split at this
     .rename_i hy;subst hy;simpa [commasS] using this
     .rename_i hy;rw[if_neg hy];simpa using this
   have a5:x=none->Aside (res=none):=by
    rintro rfl;show _=_;rw[a6.out,allS_none hx];rfl
   rcases Nat.eq_zero_or_pos ys.length with hz | hz
   .have ak:¬(0:Int)<(ys.length:Int):=by omega
    have ah:ys=[]:=length_eq_zero_iff.1 hz;have hC:=a3 lk wr (by rw[if_pos ah];exact Bk.refl lk) h1 ae i1;clear a3 hz ah;go_wp2_with fail;refine hC.mono ?_;cases x with
    | none=>
     rintro e w4 ⟨rfl,l4,a0,h4,a4⟩;refine leave1P h4 (by simp) ?_;intro l5 w5 h5 hf5;rw[(a5 rfl).out];exact⟨rfl,l5,a0,h5,a4.trans hf5⟩
    | some y=>
     rintro e w4 ⟨rfl,l4,a7,h4,a4,i4⟩;go_wp2_with fail;go_roundg (xs.length - (ys.length+1))
     case measure=>omega
     case rel=>exact⟨ys ++ [y],l4,by simp;omega,by simp,by simp,by simpa using Ns a9 hx,a7,h4,a4,i4⟩
   .have ak:(0:Int)<(ys.length:Int):=by omega
    have ai:ys≠[]:=by intro e;subst e;simp at hz
    go_wp2_with fail
    refine (put_l h1 [44,32] (by simp)).mono ?_;rintro e w3 ⟨rfl,l3,aa,h3,a8⟩;have hC:=a3 l3 w3 (by rw[if_neg ai];exact aa) h3 (ae.trans a8) (hI _ _ i1 a8);clear a3;go_wp2_with fail;refine hC.mono ?_;cases x with
    | none=>
     rintro e w4 ⟨rfl,l4,a0,h4,a4⟩;refine leave1P h4 (by simp) ?_;intro l5 w5 h5 hf5;rw[(a5 rfl).out];exact⟨rfl,l5,a0,h5,a4.trans hf5⟩
    | some y=>
     rintro e w4 ⟨rfl,l4,a7,h4,a4,i4⟩;go_wp2_with fail;go_roundg (xs.length - (ys.length+1))
     case measure=>omega
     case rel=>exact⟨ys ++ [y],l4,by simp;omega,by simp,by simp,by simpa using Ns a9 hx,a7,h4,a4,i4⟩
  .have ab:¬(ys.length:Int)<(xs.length:Int):=by omega
   have aj:xs=ys.map some:=by
    rw[take_of_length_le (by omega)] at a9;exact a9
   go_wp2;refine leave1 rfl h1 (by simp) ?_;intro l5 w5 hw5 h5 hf5;rw[a6.out,aj,allS_some];exact⟨rfl,l5,by simpa using ag.trans hw5,h5,ae.trans hf5⟩
end
section
open Go.RowKit
mutual
def gsD:GS->Nat
 | .mk k n es b c=>1+Eg b+Eg c
def Eg:List GS->Nat
 | []=>0
 | s :: r=>gsD s+Eg r
end
theorem Rq:∀{l:List GS} {i:Nat} {s:GS},l[i]?=some s->gsD s<=Eg l
 | [],i,s,h=>by simp at h
 | a :: r,0,s,h=>by simp at h;subst h;rw[Eg];omega
 | a :: r,i+1,s,h=>by have:=Rq (l:=r) (i:=i) (s:=s) (by simpa using h);rw[Eg];omega
abbrev indT(tabs:Nat):List UInt8:=List.replicate tabs 9
theorem Nt(tabs:Nat):indT (tabs+1)=indT tabs ++ [9]:=replicate_succ'
def Ab7(base b:Nat)(s:GS):Prop:=∀(l:AQ) (tabs:Nat) (cs:AR) (w:World),tabs+gsD s<=1099511627776->Wr base b l tabs w->IsGS (λ k=>k<base) w s cs ->
 AA 128 #[Bg b,.agg cs.toArray] w λ r w'=>WPost base b l tabs w (gSt s (indT tabs)) r w'
def Lf(base b:Nat)(ss:List GS):Prop:=∀(l:AQ) (tabs:Nat) (v:Value) (w:World),tabs+1+Eg ss<=1099511627776->Wr base b l tabs w->Bz (λ k=>k<base) w ss v ->
 AA 95 #[Bg b,v] w λ r w'=>WPost base b l tabs w (gBlk (gSts ss (indT tabs)) (indT tabs) ss.isEmpty) r w'
def stsJ(ind:AQ)(ys:List (List UInt8)):List UInt8:=ys.flatMap λ x=>ind ++ ([9] ++ (x ++ [10]))
def Eh(ind:AQ)(ys:List (List UInt8)):List UInt8:=ys.flatMap λ x=>10 :: (ind ++ x)
theorem Rr(a0:AQ):∀l:List GS,gSts l a0=(allS (l.map λ s=>gSt s (a0 ++ [9]))).map (stsJ a0)
 | []=>by simp[gSts,allS,stsJ]
 | s :: r=>by
  rw[gSts,map_cons,allS,Rr a0 r];rcases gSt s (a0 ++ [9]) with _ | x <;> rcases allS (r.map λ s=>gSt s (a0 ++ [9])) with _ | xs <;> simp[stsJ]
theorem Rs(a0:AQ):∀ys:List (List UInt8),Eh (a0 ++ [9]) ys ++ [10]=10 :: stsJ a0 ys
 | []=>by simp[Eh,stsJ]
 | x :: r=>by
  have:=Rs a0 r;simp only[Eh,stsJ,flatMap_cons,append_assoc,cons_append,nil_append] at this ⊢;rw[this]
theorem T8(a0:AQ)(ys:List (List UInt8))(x:AQ):Eh a0 (ys ++ [x])=Eh a0 ys ++ (10 :: (a0 ++ x)):=by simp[Eh]
theorem Ab8(a0:AQ)(ys:List (List UInt8)):123 :: (Eh (a0 ++ [9]) ys ++ (10 :: (a0 ++ [125])))=blkS (stsJ a0 ys) a0 false:=by
 have:=Rs a0 ys;simp only[blkS,Bool.false_eq_true,if_false];rw[show Eh (a0 ++ [9]) ys ++ 10 :: (a0 ++ [125])=(Eh (a0 ++ [9]) ys ++ [10]) ++ (a0 ++ [125]) by simp,this];simp
theorem IsGS.shows{B:AS}{s:GS}(h:IsGS B w s cs):∃(k:Int) (nm:ByteArray) (x:Int) (f:Bool) (y:Int) (a1:Option Addr) (n1 q1:Nat) (a2:Option Addr) (n2 q2:Nat) (a3:Option Addr) (n3 q3:Nat) (p:Int),cs=[iv k,.string nm,iv x,.bool f,iv y,.slice a1 n1 q1,.slice a2 n2 q2,.slice a3 n3 q3,iv p]:=by
 obtain⟨k,nm,es,bo,el⟩:=s;rw[IsGS] at h;obtain⟨x,y,p,f,s1,s2,s3,r1,r2,r3,a0,h1,_,h3,_,h5,_⟩:=h;obtain⟨a1,q1,rfl,_⟩:=h1.slice;obtain⟨a2,q2,rfl,_⟩:=h3.slice;obtain⟨a3,q3,rfl,_⟩:=h5.slice;exact⟨_,_,_,_,_,_,_,_,_,_,_,_,_,_,_,a0⟩
abbrev sBox(cs:Array Value):Obj:=.cells cs 46 (0,0)
theorem T9{base:Nat}:Lf base b []:=by
 intro l tabs v w hd h hx;obtain⟨row,hr,ha⟩:=hx;obtain⟨ao,cap,rfl,hm⟩:=hr.slice
 go_enter_defers func95,ntmps95
 go_wp2_with fail
 refine (put_l h [123] (by simp)).mono ?_;rintro r w2 ⟨rfl,l2,a3,h2,a0⟩;go_wp2;refine leave1 rfl h2 (by simp) ?_;intro l4 w4 hw4 h4 hf4;exact⟨rfl,l4,by simpa [blkS] using a3.trans hw4,h4,a0.trans hf4⟩
theorem X1{base:Nat}{ss:List GS}(av:0<ss.length)(hS:∀s∈ss,Ab7 base b s):Lf base b ss:=by
 intro l tabs v w hd h hx;obtain⟨row,hr,ha⟩:=hx;obtain⟨ao,cap,rfl,hm⟩:=hr.slice;have ax:((ss.length:Int) == 0)=false:=by rw[beq_eq_false_iff_ne];omega
 have af:ss.isEmpty=false:=by cases ss with | nil=>simp at av | cons _ _=>rfl
 unfold maxLen at hm;have a0:∀(q:Nat) (wr:World),q<ss.length->FW base b w wr->∃(s:GS) (g o:Nat) (u0 u1 u2 u3 u4 u5 u6 u7 u8:Value),ss[q]?=some s/\ao=some ⟨g,o,none⟩/\g<wr /\
   (wr.cell? ⟨g,o+q*9,none⟩=some u0/\wr.cell? ⟨g,o+q*9+1,none⟩=some u1/\wr.cell? ⟨g,o+q*9+2,none⟩=some u2/\wr.cell? ⟨g,o+q*9+3,none⟩=some u3/\wr.cell? ⟨g,o+q*9+4,none⟩=some u4/\wr.cell? ⟨g,o+q*9+5,none⟩=some u5/\wr.cell? ⟨g,o+q*9+6,none⟩=some u6/\wr.cell? ⟨g,o+q*9+7,none⟩=some u7/\wr.cell? ⟨g,o+q*9+8,none⟩=some u8) /\
   IsGS (λ k=>k<base) w s [u0,u1,u2,u3,u4,u5,u6,u7,u8]:=by
  intro q wr hq hF;obtain⟨s,hs⟩:∃s,ss[q]?=some s:=⟨ss[q],AN hq⟩;obtain⟨cx,kx,rx⟩:=ha.get hs;obtain⟨g,o,c,e0,_,_,b0,hg,hc⟩:=hr.cells (by omega);simp only[Value.slice.injEq] at e0;obtain⟨rfl,_,rfl⟩:=e0
  match cx,kx.len,rx,kx with
  | [u0,u1,u2,u3,u4,u5,u6,u7,u8],_,rx,kx=>
   have f0:∀(j:Nat) (u:Value),j<9->([u0,u1,u2,u3,u4,u5,u6,u7,u8]:AR)[j]?=some u->wr.cell? ⟨g,o+q*9+j,none⟩=some u:=by
    intro j u hj hu;rw[Nat.add_assoc,hF.below.cell (p:=⟨g,o+(q*9+j),none⟩) b0];exact hc _ _ (by rw[rx j hj];exact hu)
   refine⟨s,g,o,u0,u1,u2,u3,u4,u5,u6,u7,u8,hs,rfl,by have:=hF.size;omega,⟨f0 0 _ (by omega) rfl,f0 1 _ (by omega) rfl,f0 2 _ (by omega) rfl,f0 3 _ (by omega) rfl,f0 4 _ (by omega) rfl,f0 5 _ (by omega) rfl,f0 6 _ (by omega) rfl,f0 7 _ (by omega) rfl,f0 8 _ (by omega) rfl⟩,kx⟩
 clear hr ha;obtain⟨res,a4⟩:∃res,Aside (res=gBlk (gSts ss (indT tabs)) (indT tabs) ss.isEmpty):=⟨_,rfl⟩;rw[<-a4.out];rw[af,Rr,<-Nt] at a4
 go_enter_defers func95,ntmps95
 go_wp2_with fail
 refine (put_l h [123] (by simp)).mono ?_;rintro r w2 ⟨rfl,l2,ak,h2,ar⟩;have aj:=h2.lt;obtain⟨c2,f2⟩:=h2.cells;have h3:=h2.tabs (tabs+1);have aa:=ar.set h2.le 2 (iv (tabs+1:Nat));clear h h2 ar;simp only[Int.natCast_add,Int.cast_ofNat_Int] at h3 aa;go_wp2_with fail;generalize w2.setCell ⟨b,2,none⟩ (iv ((tabs:Int)+1))=w3 at *
 go_loopg [21] ss.length (λ g i wr=>∃(ys:List (List UInt8)) (lk:AQ),ys.length<=ss.length/\g=ss.length - ys.length/\i=iv ys.length/\(ss.take ys.length).map (λ s=>gSt s (indT (tabs+1)))=ys.map some/\Bk l (123 :: Eh (indT (tabs+1)) ys) lk/\Wr base b lk (tabs+1) wr/\FW base b w wr)
 case atStart=>exact⟨[],l2,by simp,rfl,rfl,by simp,by simpa [Eh] using ak,h3,aa⟩
 case round=>
  clear ak h3 aa aj c2 f2;obtain⟨ys,lk,hk,rfl,rfl,ah,al,h1,a8⟩:=hrel;by_cases hlt:ys.length<ss.length
  .have ai:(ys.length:Int)<(ss.length:Int):=by omega
   obtain⟨s,g,o,u0,u1,u2,u3,u4,u5,u6,u7,u8,hs,rfl,hg,⟨e0,e1,e2,e3,e4,e5,e6,e7,e8⟩,ab⟩:=a0 ys.length wr hlt a8;clear a0;have ae:s∈ss:=mem_of_getElem? hs;have b3:=Rq hs;obtain⟨k,nm,x,f,y,a1,n1,q1,a2,n2,q2,a3,n3,q3,p,aq⟩:=ab.shows;simp only[List.cons.injEq,and_true] at aq;obtain⟨rfl,rfl,rfl,rfl,rfl,rfl,rfl,rfl,rfl⟩:=aq;have hE:=(AY h1).alloc #[iv k,.string nm,iv x,.bool f,iv y,.slice a1 n1 q1,.slice a2 n2 q2,.slice a3 n3 q3,iv p] 46 (by decide);have au:=hS s ae;clear hS;go_wp2_with fail;generalize hww:wr.alloc (.cells #[iv k,.string nm,iv x,.bool f,iv y,.slice a1 n1 q1,.slice a2 n2 q2,.slice a3 n3 q3,iv p] 46)=w4 at *;generalize wr.heap.size=gg at *;refine (Q7 hE.wr (by omega)).mono ?_;rintro e w5 ⟨rfl,l5,ay,h5,am⟩;have a7:=hE.step h5 am;have lg:gg<w5:=a7.lt (q:=(gg,_)) (by simp;rfl);obtain⟨x0,x1,x2,x3,x4,x5,x6,x7,x8,_⟩:=Ae (a7.kept _ (AC));have a9:=a8.trans a7.fw;have hC:=au l5 (tabs+1) [iv k,.string nm,iv x,.bool f,iv y,.slice a1 n1 q1,.slice a2 n2 q2,.slice a3 n3 q3,iv p] w5 (by omega) h5 (ab.since a9.since);clear au ab hE a7 am hww e0 e1 e2 e3 e4 e5 e6 e7 e8;rcases hq:gSt s (indT (tabs+1)) with _ | x
   .rw[hq] at hC;go_wp2_with fail;refine hC.mono ?_;rintro e w6 ⟨rfl,l6,a5,h6,a6⟩;refine leave1P h6 (by simp) ?_;intro l7 w7 h7 ag;rw[a4.out,allS_none (i:=ys.length) (by rw[List.getElem?_map,hs,Option.map_some,hq])];exact⟨rfl,l7,a5,h7,(a9.trans a6).trans ag⟩
   .rw[hq] at hC;go_wp2_with fail;refine hC.mono ?_;rintro e w6 ⟨rfl,l6,aw,h6,a6⟩;go_wp2_with fail;go_roundg (ss.length - (ys.length+1))
    case measure=>omega
    case rel=>
     refine⟨ys ++ [x],l6,by simp;omega,by simp,by simp,?_,?_,h6,a9.trans a6⟩
     .rw[length_append,length_singleton,take_add_one,map_append,ah,hs];simp[hq]
     .rw[T8];simpa using (al.trans ay).trans aw
  .have ai:¬(ys.length:Int)<(ss.length:Int):=by omega
   have ad:ss.map (λ s=>gSt s (indT (tabs+1)))=ys.map some:=by
    rw[take_of_length_le (by omega)] at ah;exact ah
   obtain⟨c2,f2⟩:=h1.cells;simp only[Int.natCast_add,Int.cast_ofNat_Int] at c2;have b4:=h1.lt;have h6:=h1.tabs tabs;have a6:=a8.set h1.le 2 (iv (tabs:Nat));have e1:(tabs:Int)+1 - 1=tabs:=by omega
   clear a0 hS h1 a8;go_wp2_with fail;generalize wr.setCell ⟨b,2,none⟩ (iv (tabs:Int))=w6 at *;refine (Q7 h6 (by omega)).mono ?_;rintro e w7 ⟨rfl,l7,az,h7,ag⟩;go_wp2;refine leave1 rfl h7 (by simp) ?_;intro l8 w8 hw8 h8 hf8;rw[a4.out,ad,allS_some];refine⟨rfl,l8,?_,h8,(a6.trans ag).trans hf8⟩;show Bk l (blkS (stsJ (indT tabs) ys) (indT tabs) false) l8;rw[<-Ab8,<-Nt];simpa using (al.trans az).trans hw8
end
section
open Go.RowKit
open Px (opL opX dg)
theorem C1{base:Nat}{args:List GE}{row:AR}{ao:Option Addr}{cap:Nat}(hr:SlRow (λ k=>k<base) w 8 (.slice ao args.length cap) args.length row)(ha:Bx (λ k=>k<base) w args row)(hF:FW base b w w'){q:Nat}{e:GE}(hq:args[q]?=some e) :
  ∃(g o:Nat) (u0 u1 u2 u3 u4 u5 u6 u7:Value),ao=some ⟨g,o,none⟩/\g<w' /\
   (w'.cell? ⟨g,o+q*8,none⟩=some u0/\w'.cell? ⟨g,o+q*8+1,none⟩=some u1/\w'.cell? ⟨g,o+q*8+2,none⟩=some u2/\w'.cell? ⟨g,o+q*8+3,none⟩=some u3/\w'.cell? ⟨g,o+q*8+4,none⟩=some u4/\w'.cell? ⟨g,o+q*8+5,none⟩=some u5/\w'.cell? ⟨g,o+q*8+6,none⟩=some u6/\w'.cell? ⟨g,o+q*8+7,none⟩=some u7) /\
   IsGE (λ k=>k<base) w' e [u0,u1,u2,u3,u4,u5,u6,u7]:=by
 have a3:q<args.length:=(AK hq).1;obtain⟨cx,kx,rx⟩:=ha.get hq;obtain⟨g,o,c,e0,_,_,a0,hg,hc⟩:=hr.cells (by omega);simp only[Value.slice.injEq] at e0;obtain⟨rfl,_,rfl⟩:=e0
 match cx,kx.len,rx,kx with
 | [u0,u1,u2,u3,u4,u5,u6,u7],_,rx,kx=>
  have f0:∀(j:Nat) (u:Value),j<8->([u0,u1,u2,u3,u4,u5,u6,u7]:AR)[j]?=some u->w'.cell? ⟨g,o+q*8+j,none⟩=some u:=by
   intro j u hj hu;rw[Nat.add_assoc,hF.below.cell (p:=⟨g,o+(q*8+j),none⟩) a0];exact hc _ _ (by rw[rx j hj];exact hu)
  exact⟨g,o,u0,u1,u2,u3,u4,u5,u6,u7,rfl,by have:=hF.size;omega,⟨f0 0 _ (by omega) rfl,f0 1 _ (by omega) rfl,f0 2 _ (by omega) rfl,f0 3 _ (by omega) rfl,f0 4 _ (by omega) rfl,f0 5 _ (by omega) rfl,f0 6 _ (by omega) rfl,f0 7 _ (by omega) rfl⟩,kx.since hF.since⟩
structure CallIn(base b g0:Nat)(cs:Array Value)(w w1:World):Prop where
 p:w1.heap[g0]?=some (Am b)
 x:w1.heap[g0+1]?=some (xBox cs)
 gt:b<g0
 fw:FW base b w w1
theorem CallIn.step{base g0:Nat}{cs:Array Value}(h:CallIn base b g0 cs w w1)(hf:FW base b w1 w2):CallIn base b g0 cs w w2:=by
 have hg:=h.gt;exact⟨hf.block h.p (by omega) (by decide),hf.block h.x (by omega) (by decide),hg,h.fw.trans hf⟩
theorem X2{base g0:Nat}{k o n:Int}{t:AQ}{x:Int}{y:ByteArray}{ao:Option Addr}{cap:Nat}{p:Int}{args:List GE}{row:AR}{tabs:Nat}(hr:SlRow (λ k=>k<base) w 8 (.slice ao args.length cap) args.length row)(ha:Bx (λ k=>k<base) w args row)(hX:∀e∈args,De base b e)
  (i:Nat) (r:Option (List UInt8)) (l:AQ) (w1:World) (hi:(args.map gE)[i]?=some r) (hW:Wr base b l tabs w1) (hI:CallIn base b g0 (geBox k o n t x y (.slice ao args.length cap) p) w w1) :
  AA 182 (#[iv i] ++ #[pt g0 0,pt (g0+1) 0]) w1 λ e w2=>WPost base b l tabs w1 r e w2:=by
 rw[List.getElem?_map] at hi;rcases he:args[i]? with _ | e
 .rw[he] at hi;cases hi
 rw[he,Option.map_some,Option.some.injEq] at hi;have a4:e∈args:=mem_of_getElem? he;have a8:i<args.length:=(AK he).1;obtain⟨_,_,-,hm⟩:=hr.slice;unfold maxLen at hm;obtain⟨g,o',u0,u1,u2,u3,u4,u5,u6,u7,rfl,hg,⟨e0,e1,e2,e3,e4,e5,e6,e7⟩,a5⟩:=C1 hr ha hI.fw he;have hC:=(hX e a4).top hW.drew (a5.since (Since.drewN _ w1 1));rw[hi] at hC;have l0:g0<w1:=(AB hI.p).1;have l1:g0+1<w1:=(AB hI.x).1;have c0:=cell_of_one hI.p;obtain⟨x0,x1,x2,x3,x4,x5,x6,x7,_⟩:=Ab hI.x;have a7:(i:Int)<(args.length:Int):=by omega
 have a9:(0:Int)<=(i:Int):=by omega
 clear hX hr ha a5 hI he hi;show AA 182 #[iv i,pt g0 0,pt (g0+1) 0] w1 _;go_enter func182,ntmps182
 go_upto_region 0 with fail
 rcases r with _ | z
 .go_region_with (go_at_call 156;refine hC.mono ?_;rintro e w5 ⟨rfl,l5,a0,h5,a3⟩;refine skip_way w5 ⟨rfl,rfl,l5,a0,h5,AX 1 a3⟩ ?_)
  all_goals trivial
 .go_region_with (go_at_call 156;refine hC.mono ?_;rintro e w5 ⟨rfl,l5,a6,h5,a3⟩)
  all_goals
   go_wp2
   go_end0
   exact⟨rfl,l5,a6,h5,AX 1 a3⟩
end
section
open Go.RowKit
open Px (opL opX dg lv)
theorem An4(m:Nat)(h1:1<=m)(h2:m<=13):(opX m).length<=2:=by
 rcases Px.op_cases h1 h2 with rfl | rfl | rfl | rfl | rfl | rfl | rfl | rfl | rfl | rfl | rfl | rfl | rfl <;> decide
theorem Ub(m:Nat)(h1:1<=m)(h2:m<=13):1<=opL m/\opL m<=5:=by
 rcases Px.op_cases h1 h2 with rfl | rfl | rfl | rfl | rfl | rfl | rfl | rfl | rfl | rfl | rfl | rfl | rfl <;> decide
theorem Ru(mk:AQ):((⟨#[32]⟩ ++ ⟨mk.toArray⟩ ++ ⟨#[32]⟩:ByteArray))=⟨(32 :: (mk ++ [32])).toArray⟩:=by
 apply ByteArray.ext;simp[ByteArray.data_append]
theorem Lg{base:Nat}(h1:1<=m)(h2:m<=13){k n:Int}{t:AQ}{a c:GE}(ar:De base b a)(am:De base b c){l:AQ}{tabs:Nat}(hW:Wr base b l tabs w)(hx:IsGE (λ k=>k<base) w (.mk k m n t [a,c]) cs) :
  AA 183 #[Bg b,.agg cs.toArray] w λ r w'=>WPost base b l tabs w ((gE a).bind λ x=>(gE c).map λ y=>withinS (Bn (lv m) a) x ++ 32 :: (opX m ++ 32 :: withinS (Bn (opL m+1) c) y)) r w':=by
 rw[IsGE] at hx;obtain⟨x,p,y,sl,row,rfl,hr,ha⟩:=hx;obtain⟨ao,cap,rfl,hm⟩:=hr.slice;obtain⟨res,a0⟩:∃res:Option (List UInt8),Aside (res=(gE a).bind λ x=>(gE c).map λ y=>withinS (Bn (lv m) a) x ++ 32 :: (opX m ++ 32 :: withinS (Bn (opL m+1) c) y)):=⟨_,show _=_ from rfl⟩;rw[<-a0.out];have hE:=(AY hW).alloc (geBox k m n t x y (.slice ao 2 cap) p) 48 (by decide);have hO:=We m h1 h2;have aw:=An4 m h1 h2;obtain⟨aq,av⟩:=Ub m h1 h2;obtain⟨lf,ad,a8⟩:∃lf:Nat,lf+1=lv m/\lf<=6:=⟨lv m - 1,by unfold lv;split <;> omega,by unfold lv;split <;> omega⟩;obtain⟨q,ak⟩:∃q:Nat,q+1=opL m:=⟨opL m - 1,by omega⟩;have ax:q<=4:=by omega
 have af:Aside ((q=2->lf=q+1)/\(q≠2->lf=q)):=by
  show _/\_;unfold lv at ad;rw[<-ak] at ad;constructor
  .intro h;rw[if_pos (by omega)] at ad;omega
  .intro h;rw[if_neg (by omega)] at ad;omega
 rw[<-ad,<-ak] at a0;rw[show opL m - 1=q by omega] at hO;generalize opX m=mk at *;clear hW hm aq av ad ak;have hA:=λ (w':World) (hF:FW base b w w')=>C1 hr ha hF (q:=0) (e:=a) rfl
 have hB:=λ (w':World) (hF:FW base b w w')=>C1 hr ha hF (q:=1) (e:=c) rfl
 clear hr ha;go_enter func183,ntmps183;go_wp2_with fail;generalize w.alloc (.cells (geBox k m n t x y (.slice ao 2 cap) p) 48)=w2 at *;generalize w.heap.size=g0 at *;have l0:g0<w2:=hE.lt (q:=(g0,xBox _)) (by simp;rfl);obtain⟨x0,x1,x2,x3,x4,x5,x6,x7,_⟩:=Ab (hE.kept _ (AC));refine (hO _).mono ?_;rintro e w3 ⟨rfl,rfl⟩;obtain⟨g,o',u0,u1,u2,u3,u4,u5,u6,u7,rfl,hg,⟨e0,e1,e2,e3,e4,e5,e6,e7⟩,a7⟩:=hA w3 hE.fw;simp only[Nat.zero_mul,Nat.add_zero] at e0 e1 e2 e3 e4 e5 e6 e7;have hC:=ar lf l tabs _ w3 a8 hE.wr a7;clear a7 hA hO;have al:=hE.fw;by_cases h2q:q=2
 .have a5:=(af.out).1 h2q;have au:((q:Int) == 2)=true:=by rw[h2q];rfl
  clear h2q af;rw[a5] at hC a0;clear a5 a8
  try simp only[Int.natCast_add,Int.cast_ofNat_Int] at hC
  go_wp2_with fail
  refine hC.mono ?_;rcases hqa:gE a with _ | za
  .rintro e w4 ⟨rfl,l4,a6,h4,a9⟩;refine⟨rfl,?_⟩;rw[a0.out,hqa];exact⟨rfl,l4,a6,h4,al.trans a9⟩
  rintro e w4 ⟨rfl,l4,ah,h4,a9⟩;have aa:=hE.step h4 a9;clear e0 e1 e2 e3 e4 e5 e6 e7 x0 x1 x2 x3 x4 x5 x6 x7 l0 hg hC;have l0:g0<w4:=aa.lt (q:=(g0,xBox _)) (by simp;rfl);obtain⟨x0,x1,x2,x3,x4,x5,x6,x7,_⟩:=Ab (aa.kept _ (AC));go_wp2_with fail;rw[Ru];refine (put_l h4 (32 :: (mk ++ [32])) (by simp;omega)).mono ?_;rintro e w5 ⟨rfl,l5,aj,h5,ai⟩;have a3:=aa.step h5 ai;clear x0 x1 x2 x3 x4 x5 x6 x7 l0;have l0:g0<w5:=a3.lt (q:=(g0,xBox _)) (by simp;rfl);obtain⟨x0,x1,x2,x3,x4,x5,x6,x7,_⟩:=Ab (a3.kept _ (AC));obtain⟨g,o',u0,u1,u2,u3,u4,u5,u6,u7,ae,hg,⟨e0,e1,e2,e3,e4,e5,e6,e7⟩,a7⟩:=hB w5 a3.fw;simp only[Option.some.injEq,Addr.mk.injEq,and_true] at ae;obtain⟨rfl,rfl⟩:=ae;simp only[Nat.one_mul,Nat.add_assoc,Nat.reduceAdd] at e0 e1 e2 e3 e4 e5 e6 e7;have hC:=am (q+1) l5 tabs _ w5 (by omega) h5 a7;simp only[Int.natCast_add,Int.cast_ofNat_Int] at hC;clear a7 hB;go_wp2_with fail;refine hC.mono ?_;rcases hqc:gE c with _ | zc
  .rintro e w6 ⟨rfl,l6,a4,h6,ab⟩;refine⟨rfl,?_⟩;rw[a0.out,hqa,hqc];exact⟨rfl,l6,a4,h6,a3.fw.trans ab⟩
  .rintro e w6 ⟨rfl,l6,ag,h6,ab⟩;go_wp2
   go_end0
   rw[a0.out,hqa,hqc];exact⟨rfl,l6,by simpa using (ah.trans aj).trans ag,h6,a3.fw.trans ab⟩
 .have a5:=(af.out).2 h2q;have au:((q:Int) == 2)=false:=by rw[beq_eq_false_iff_ne];omega
  clear h2q af;rw[a5] at hC a0;clear a5 a8
  try simp only[Int.natCast_add,Int.cast_ofNat_Int] at hC
  go_wp2_with fail
  refine hC.mono ?_;rcases hqa:gE a with _ | za
  .rintro e w4 ⟨rfl,l4,a6,h4,a9⟩;refine⟨rfl,?_⟩;rw[a0.out,hqa];exact⟨rfl,l4,a6,h4,al.trans a9⟩
  rintro e w4 ⟨rfl,l4,ah,h4,a9⟩;have aa:=hE.step h4 a9;clear e0 e1 e2 e3 e4 e5 e6 e7 x0 x1 x2 x3 x4 x5 x6 x7 l0 hg hC;have l0:g0<w4:=aa.lt (q:=(g0,xBox _)) (by simp;rfl);obtain⟨x0,x1,x2,x3,x4,x5,x6,x7,_⟩:=Ab (aa.kept _ (AC));go_wp2_with fail;rw[Ru];refine (put_l h4 (32 :: (mk ++ [32])) (by simp;omega)).mono ?_;rintro e w5 ⟨rfl,l5,aj,h5,ai⟩;have a3:=aa.step h5 ai;clear x0 x1 x2 x3 x4 x5 x6 x7 l0;have l0:g0<w5:=a3.lt (q:=(g0,xBox _)) (by simp;rfl);obtain⟨x0,x1,x2,x3,x4,x5,x6,x7,_⟩:=Ab (a3.kept _ (AC));obtain⟨g,o',u0,u1,u2,u3,u4,u5,u6,u7,ae,hg,⟨e0,e1,e2,e3,e4,e5,e6,e7⟩,a7⟩:=hB w5 a3.fw;simp only[Option.some.injEq,Addr.mk.injEq,and_true] at ae;obtain⟨rfl,rfl⟩:=ae;simp only[Nat.one_mul,Nat.add_assoc,Nat.reduceAdd] at e0 e1 e2 e3 e4 e5 e6 e7;have hC:=am (q+1) l5 tabs _ w5 (by omega) h5 a7;simp only[Int.natCast_add,Int.cast_ofNat_Int] at hC;clear a7 hB;go_wp2_with fail;refine hC.mono ?_;rcases hqc:gE c with _ | zc
  .rintro e w6 ⟨rfl,l6,a4,h6,ab⟩;refine⟨rfl,?_⟩;rw[a0.out,hqa,hqc];exact⟨rfl,l6,a4,h6,a3.fw.trans ab⟩
  .rintro e w6 ⟨rfl,l6,ag,h6,ab⟩;go_wp2
   go_end0
   rw[a0.out,hqa,hqc];exact⟨rfl,l6,by simpa using (ah.trans aj).trans ag,h6,a3.fw.trans ab⟩
end
section
open Go.RowKit
open Px (opL opX dg)
theorem Nu(x:AQ)(w:World)(hs:x.length<=maxLen):AA 91 #[.string ⟨x.toArray⟩] w λ e w'=>Ju w (if gName x then some x else none) e w':=by
 refine (Dc x w hs).mono ?_;rintro e w' ⟨rfl,rfl⟩;cases gName x
 .exact⟨rfl,AF _ _⟩
 .exact⟨rfl,AF _ _⟩
theorem Nw(h:gName x=true):x.length<=16:=by
 cases x with
 | nil=>simp
 | cons c r=>simp[gName,wordB] at h;simp;omega
theorem X6{base:Nat}{o n:Int}{t:AQ}{a3:Nat}{l:AQ}{tabs:Nat}(hW:Wr base b l tabs w)(hx:IsGE (λ k=>k<base) w (.mk 6 o n t []) cs)(af:a3<=6)(h1:t.length<=maxLen) :
  AA 156 #[Bg b,.agg cs.toArray,iv a3] w λ r w'=>WPost base b l tabs w (if gName t then some t else none) r w':=by
 rw[IsGE] at hx;obtain⟨x,p,y,sl,row,rfl,hr,ha⟩:=hx;obtain⟨ao,cap,rfl,hm⟩:=hr.slice;obtain⟨res,a0⟩:∃res:Option (List UInt8),Aside (res=if gName t then some t else none):=⟨_,show _=_ from rfl⟩;rw[<-a0.out];clear ha hr hm;have hE:=AZ hW (geBox 6 o n t x y (.slice ao 0 cap) p);have hA:=Cj 6 o n t x y ao 0 cap p;rw[show nArgs 6 0=0 from rfl] at hA;clear hW;refine A8 func156 rfl ?_;simp only[ntmps156,size_toArray,length_cons,length_nil,Nat.reduceAdd,Nat.reduceSub,Array.replicate_succ,Array.replicate_zero,push_toArray,append_toArray,nil_append,cons_append]
 go_upto_region 1 with fail
 generalize ((w.alloc (Am b)).alloc (xBox (geBox 6 o n t x y (.slice ao 0 cap) p)))=w2 at *;generalize w.heap.size=g0 at *
 go_cut [] from 6 to 12 (λ wc=>In base b (eks b g0 (geBox 6 o n t x y (.slice ao 0 cap) p)) l tabs w wc)
 case first=>
  have l0:g0<w2:=hE.lt (q:=(g0,Am b)) (by simp);have l1:g0+1<w2:=hE.lt (q:=(g0+1,xBox _)) (by simp;rfl);obtain⟨x0,x1,x2,x3,x4,x5,x6,x7,_⟩:=Ab (hE.kept _ (AC))
  go_region_with (first
   |(go_at_call 178;refine (hA _).mono ?_;rintro e w3 ⟨rfl,ae⟩;have a7:=hE.drew.call ae;have l3:g0+1<w3:=a7.lt (q:=(g0+1,xBox _)) (by simp;rfl);obtain⟨y0,y1,y2,y3,y4,y5,y6,y7,_⟩:=Ab (a7.kept _ (AC)))
   |(go_at_call 89;refine (need_ok _).mono ?_;rintro e w4 ⟨rfl,rfl⟩))
  all_goals (go_wp2_with fail;go_meet;exact a7)
 case rest=>
  clear hE hA;have hE:=hcut;have l0:g0<wc:=hE.lt (q:=(g0,Am b)) (by simp);have l1:g0+1<wc:=hE.lt (q:=(g0+1,xBox _)) (by simp;rfl);have c0:=cell_of_one (hE.kept (g0,Am b) (by simp));obtain⟨x0,x1,x2,x3,x4,x5,x6,x7,_⟩:=Ab (hE.kept _ (AC));have hL:=Dd 6 o n (by decide) t x y ao 0 cap p wc;rw[if_neg (by decide)] at hL;have ad:¬(6:Int)<(a3:Int):=by omega
  go_wp2_with fail
  refine hL.mono ?_;rintro e w4 ⟨rfl,a8⟩;have a5:=hE.call a8;clear l0 l1 c0 x0 x1 x2 x3 x4 x5 x6 x7 hL hE hcut a8;have l0:g0<w4:=a5.lt (q:=(g0,Am b)) (by simp);have l1:g0+1<w4:=a5.lt (q:=(g0+1,xBox _)) (by simp;rfl);have c0:=cell_of_one (a5.kept (g0,Am b) (by simp));obtain⟨x0,x1,x2,x3,x4,x5,x6,x7,_⟩:=Ab (a5.kept _ (AC));have hN:AA 91 #[.string ⟨t.toArray⟩] w4.drew λ e w'=>Ju w4.drew res e w':=by
   rw[a0.out];exact Nu t w4.drew h1
  go_upto_region 14 with fail
  rcases hq:res with _ | z
  .rw[hq] at hN;clear a0
   go_region_with (go_at_call 91;refine hN.mono ?_;rintro e w5 ⟨rfl,a6⟩;have a4:=a5.drew.call a6;refine skip_way w5 (λ _=>leaveP (show WPost base b l tabs w res _ _ by rw[hq];exact⟨rfl,l,tabs,a4.wr,a4.fw⟩)) ?_)
   all_goals trivial
  .rw[hq] at hN;have ab:z.length<=1099511627776:=by
    have:=a0.out;rw[hq] at this;split at this
    .rename_i hpl;simp only[Option.some.injEq] at this;subst this;have:=Nw hpl;omega
    .cases this
   clear a0
   go_region_with (first
    |(go_at_call 91;refine hN.mono ?_;rintro e w5 ⟨rfl,a6⟩;have a4:=a5.drew.call a6;have l5:g0<w5:=a4.lt (q:=(g0,Am b)) (by simp);have c5:=cell_of_one (a4.kept (g0,Am b) (by simp)))
    |(go_at_call 60;refine (put_l a4.wr z ab).mono ?_;rintro e w6 ⟨rfl,l6,aa,h6,a9⟩))
   all_goals
    go_wp2;exact leave0 rfl (show WPost base b l tabs w res _ _ by rw[hq];exact⟨rfl,l6,aa,h6,a4.fw.trans a9⟩)
end
section
open Go.RowKit
open Px (opL opX dg lv)
theorem Ac5(o n:Int)(t:AQ)(a:GE)(a0:Nat):Bn (a0+1) (.mk 13 o n t [a])=decide (5<a0):=by
 simp[Bn,GE.k,GE.o];omega
theorem X8{base:Nat}{o n:Int}{t:AQ}{a:GE}{a0:Nat}{l:AQ}{tabs:Nat}(hW:Wr base b l tabs w)(hx:IsGE (λ k=>k<base) w (.mk 13 o n t [a]) cs)(aj:De base b a)(ar:a0<=6) :
  AA 156 #[Bg b,.agg cs.toArray,iv a0] w λ r w'=>WPost base b l tabs w ((gE a).map λ x=>withinS (Bn (a0+1) (.mk 13 o n t [a])) (45 :: withinS (Bn 6 a) x)) r w':=by
 rw[IsGE] at hx;obtain⟨x,p,y,sl,row,rfl,hr,ha⟩:=hx;obtain⟨ao,cap,rfl,hm⟩:=hr.slice;obtain⟨res,a6⟩:∃res:Option (List UInt8),Aside (res=(gE a).map λ x=>withinS (Bn (a0+1) (.mk 13 o n t [a])) (45 :: withinS (Bn 6 a) x)):=⟨_,show _=_ from rfl⟩;rw[<-a6.out];have ad:=λ (q:Nat) (e:GE) (w':World) (hq:([a]:List GE)[q]?=some e) (hF:FW base b w w')=>C1 hr ha hF hq
 clear hr ha hm;have hE:=AZ hW (geBox 13 o n t x y (.slice ao 1 cap) p);have hA:=Cj 13 o n t x y ao 1 cap p;rw[show nArgs 13 1=1 from rfl] at hA;clear hW;refine A8 func156 rfl ?_;simp only[ntmps156,size_toArray,length_cons,length_nil,Nat.reduceAdd,Nat.reduceSub,Array.replicate_succ,Array.replicate_zero,push_toArray,append_toArray,nil_append,cons_append]
 go_upto_region 1 with fail
 generalize ((w.alloc (Am b)).alloc (xBox (geBox 13 o n t x y (.slice ao 1 cap) p)))=w2 at *;generalize w.heap.size=g0 at *
 go_cut [] from 6 to 12 (λ wc=>In base b (eks b g0 (geBox 13 o n t x y (.slice ao 1 cap) p)) l tabs w wc)
 case first=>
  have l0:g0<w2:=hE.lt (q:=(g0,Am b)) (by simp);have l1:g0+1<w2:=hE.lt (q:=(g0+1,xBox _)) (by simp;rfl);obtain⟨x0,x1,x2,x3,x4,x5,x6,x7,_⟩:=Ab (hE.kept _ (AC))
  go_region_with (first
   |(go_at_call 178;refine (hA _).mono ?_;rintro e w3 ⟨rfl,aq⟩;have af:=hE.drew.call aq;have l3:g0+1<w3:=af.lt (q:=(g0+1,xBox _)) (by simp;rfl);obtain⟨y0,y1,y2,y3,y4,y5,y6,y7,_⟩:=Ab (af.kept _ (AC)))
   |(go_at_call 89;refine (need_ok _).mono ?_;rintro e w4 ⟨rfl,rfl⟩))
  all_goals (go_wp2_with fail;go_meet;exact af)
 case rest=>
  clear hE hA;have hE:=hcut;have l0:g0<wc:=hE.lt (q:=(g0,Am b)) (by simp);have l1:g0+1<wc:=hE.lt (q:=(g0+1,xBox _)) (by simp;rfl);have c0:=cell_of_one (hE.kept (g0,Am b) (by simp));obtain⟨x0,x1,x2,x3,x4,x5,x6,x7,_⟩:=Ab (hE.kept _ (AC));have hL:=Dd 13 o n (by decide) t x y ao 1 cap p wc;rw[if_pos (by decide)] at hL;go_wp2_with fail;refine hL.mono ?_;rintro e w4 ⟨rfl,ak⟩;have a7:=hE.call ak;clear l0 l1 c0 x0 x1 x2 x3 x4 x5 x6 x7 hL hE hcut ak;have l0:g0<w4:=a7.lt (q:=(g0,Am b)) (by simp);have l1:g0+1<w4:=a7.lt (q:=(g0+1,xBox _)) (by simp;rfl);have c0:=cell_of_one (a7.kept (g0,Am b) (by simp));obtain⟨x0,x1,x2,x3,x4,x5,x6,x7,_⟩:=Ab (a7.kept _ (AC));have a4:=Ac5 o n t a a0;by_cases h5:5<a0
  .have ai:(5:Int)<(a0:Int):=by omega
   have a8:Bn (a0+1) (.mk 13 o n t [a])=true:=by rw[a4];simpa using h5
   clear a4 h5;go_wp2_with fail;refine (put_l a7.wr [40] (by simp)).mono ?_;rintro e w5 ⟨rfl,l5,am,h5,al⟩;have aa:=a7.step h5 al;clear l0 l1 c0 x0 x1 x2 x3 x4 x5 x6 x7;have l0:g0<w5:=aa.lt (q:=(g0,Am b)) (by simp);have l1:g0+1<w5:=aa.lt (q:=(g0+1,xBox _)) (by simp;rfl);have c0:=cell_of_one (aa.kept (g0,Am b) (by simp));obtain⟨x0,x1,x2,x3,x4,x5,x6,x7,_⟩:=Ab (aa.kept _ (AC));go_wp2_with fail;refine (put_l aa.wr [45] (by simp)).mono ?_;rintro e w6 ⟨rfl,l6,ae,h6,ag⟩;have a3:=aa.step h6 ag;clear l0 l1 c0 x0 x1 x2 x3 x4 x5 x6 x7;have l0:g0<w6:=a3.lt (q:=(g0,Am b)) (by simp);have l1:g0+1<w6:=a3.lt (q:=(g0+1,xBox _)) (by simp;rfl);have c0:=cell_of_one (a3.kept (g0,Am b) (by simp));obtain⟨x0,x1,x2,x3,x4,x5,x6,x7,_⟩:=Ab (a3.kept _ (AC));obtain⟨g,o',u0,u1,u2,u3,u4,u5,u6,u7,rfl,hg,⟨e0,e1,e2,e3,e4,e5,e6,e7⟩,ab⟩:=ad 0 a w6 rfl a3.fw;simp only[Nat.zero_mul,Nat.add_zero] at e0 e1 e2 e3 e4 e5 e6 e7;have hC:=aj 5 l6 tabs _ w6.drew (by omega) h6.drew (ab.since (Since.drewN _ w6 1));clear ab;rcases hqa:gE a with _ | za
   .rw[hqa] at hC
    go_upto_region 23 with fail
    go_region_with (go_at_call 156;refine hC.mono ?_;rintro e w7 ⟨rfl,l7,a5,h7,a9⟩;refine skip_way w7 (λ _=>leave1P h7 (by simp) (λ l8 w8 h8 hf8=>show WPost base b l tabs w res _ _ by rw[a6.out,hqa];exact⟨rfl,l8,a5,h8,(a3.fw.trans (AX 1 a9)).trans hf8⟩)) ?_)
    all_goals trivial
   .rw[hqa] at hC
    go_upto_region 23 with fail
    go_region_with (go_at_call 156;refine hC.mono ?_;rintro e w7 ⟨rfl,l7,ah,h7,a9⟩)
    all_goals
     go_wp2;exact leave1 rfl h7 (by simp) (λ l8 w8 hw8 h8 hf8=>show WPost base b l tabs w res _ _ by rw[a6.out,hqa,Option.map_some,a8];exact⟨rfl,l8,by simpa [withinS] using ((am.trans ae).trans ah).trans hw8,h8,(a3.fw.trans (AX 1 a9)).trans hf8⟩)
  .have ai:¬(5:Int)<(a0:Int):=by omega
   have a8:Bn (a0+1) (.mk 13 o n t [a])=false:=by rw[a4];simpa using h5
   clear a4 h5;go_wp2_with fail;refine (put_l a7.wr [45] (by simp)).mono ?_;rintro e w6 ⟨rfl,l6,ae,h6,ag⟩;have a3:=a7.step h6 ag;clear l0 l1 c0 x0 x1 x2 x3 x4 x5 x6 x7;have l0:g0<w6:=a3.lt (q:=(g0,Am b)) (by simp);have l1:g0+1<w6:=a3.lt (q:=(g0+1,xBox _)) (by simp;rfl);have c0:=cell_of_one (a3.kept (g0,Am b) (by simp));obtain⟨x0,x1,x2,x3,x4,x5,x6,x7,_⟩:=Ab (a3.kept _ (AC));obtain⟨g,o',u0,u1,u2,u3,u4,u5,u6,u7,rfl,hg,⟨e0,e1,e2,e3,e4,e5,e6,e7⟩,ab⟩:=ad 0 a w6 rfl a3.fw;simp only[Nat.zero_mul,Nat.add_zero] at e0 e1 e2 e3 e4 e5 e6 e7;have hC:=aj 5 l6 tabs _ w6.drew (by omega) h6.drew (ab.since (Since.drewN _ w6 1));clear ab;rcases hqa:gE a with _ | za
   .rw[hqa] at hC
    go_upto_region 23 with fail
    go_region_with (go_at_call 156;refine hC.mono ?_;rintro e w7 ⟨rfl,l7,a5,h7,a9⟩;refine skip_way w7 (λ _=>leaveP (show WPost base b l tabs w res _ _ by rw[a6.out,hqa];exact⟨rfl,l7,a5,h7,a3.fw.trans (AX 1 a9)⟩)) ?_)
    all_goals trivial
   .rw[hqa] at hC
    go_upto_region 23 with fail
    go_region_with (go_at_call 156;refine hC.mono ?_;rintro e w7 ⟨rfl,l7,ah,h7,a9⟩)
    all_goals
     go_wp2;exact leave0 rfl (show WPost base b l tabs w res _ _ by rw[a6.out,hqa,Option.map_some,a8];exact⟨rfl,l7,by simpa [withinS] using ae.trans ah,h7,a3.fw.trans (AX 1 a9)⟩)
theorem Ac6(o n:Int)(t:AQ)(a:GE)(a0:Nat):Bn (a0+1) (.mk 14 o n t [a])=decide (5<a0):=by
 simp[Bn,GE.k,GE.o];omega
theorem X9{base:Nat}{o n:Int}{t:AQ}{a:GE}{a0:Nat}{l:AQ}{tabs:Nat}(hW:Wr base b l tabs w)(hx:IsGE (λ k=>k<base) w (.mk 14 o n t [a]) cs)(aj:De base b a)(ar:a0<=6) :
  AA 156 #[Bg b,.agg cs.toArray,iv a0] w λ r w'=>WPost base b l tabs w ((gE a).map λ x=>withinS (Bn (a0+1) (.mk 14 o n t [a])) (33 :: withinS (Bn 6 a) x)) r w':=by
 rw[IsGE] at hx;obtain⟨x,p,y,sl,row,rfl,hr,ha⟩:=hx;obtain⟨ao,cap,rfl,hm⟩:=hr.slice;obtain⟨res,a6⟩:∃res:Option (List UInt8),Aside (res=(gE a).map λ x=>withinS (Bn (a0+1) (.mk 14 o n t [a])) (33 :: withinS (Bn 6 a) x)):=⟨_,show _=_ from rfl⟩;rw[<-a6.out];have ad:=λ (q:Nat) (e:GE) (w':World) (hq:([a]:List GE)[q]?=some e) (hF:FW base b w w')=>C1 hr ha hF hq
 clear hr ha hm;have hE:=AZ hW (geBox 14 o n t x y (.slice ao 1 cap) p);have hA:=Cj 14 o n t x y ao 1 cap p;rw[show nArgs 14 1=1 from rfl] at hA;clear hW;refine A8 func156 rfl ?_;simp only[ntmps156,size_toArray,length_cons,length_nil,Nat.reduceAdd,Nat.reduceSub,Array.replicate_succ,Array.replicate_zero,push_toArray,append_toArray,nil_append,cons_append]
 go_upto_region 1 with fail
 generalize ((w.alloc (Am b)).alloc (xBox (geBox 14 o n t x y (.slice ao 1 cap) p)))=w2 at *;generalize w.heap.size=g0 at *
 go_cut [] from 6 to 12 (λ wc=>In base b (eks b g0 (geBox 14 o n t x y (.slice ao 1 cap) p)) l tabs w wc)
 case first=>
  have l0:g0<w2:=hE.lt (q:=(g0,Am b)) (by simp);have l1:g0+1<w2:=hE.lt (q:=(g0+1,xBox _)) (by simp;rfl);obtain⟨x0,x1,x2,x3,x4,x5,x6,x7,_⟩:=Ab (hE.kept _ (AC))
  go_region_with (first
   |(go_at_call 178;refine (hA _).mono ?_;rintro e w3 ⟨rfl,aq⟩;have af:=hE.drew.call aq;have l3:g0+1<w3:=af.lt (q:=(g0+1,xBox _)) (by simp;rfl);obtain⟨y0,y1,y2,y3,y4,y5,y6,y7,_⟩:=Ab (af.kept _ (AC)))
   |(go_at_call 89;refine (need_ok _).mono ?_;rintro e w4 ⟨rfl,rfl⟩))
  all_goals (go_wp2_with fail;go_meet;exact af)
 case rest=>
  clear hE hA;have hE:=hcut;have l0:g0<wc:=hE.lt (q:=(g0,Am b)) (by simp);have l1:g0+1<wc:=hE.lt (q:=(g0+1,xBox _)) (by simp;rfl);have c0:=cell_of_one (hE.kept (g0,Am b) (by simp));obtain⟨x0,x1,x2,x3,x4,x5,x6,x7,_⟩:=Ab (hE.kept _ (AC));have hL:=Dd 14 o n (by decide) t x y ao 1 cap p wc;rw[if_pos (by decide)] at hL;go_wp2_with fail;refine hL.mono ?_;rintro e w4 ⟨rfl,ak⟩;have a7:=hE.call ak;clear l0 l1 c0 x0 x1 x2 x3 x4 x5 x6 x7 hL hE hcut ak;have l0:g0<w4:=a7.lt (q:=(g0,Am b)) (by simp);have l1:g0+1<w4:=a7.lt (q:=(g0+1,xBox _)) (by simp;rfl);have c0:=cell_of_one (a7.kept (g0,Am b) (by simp));obtain⟨x0,x1,x2,x3,x4,x5,x6,x7,_⟩:=Ab (a7.kept _ (AC));have a4:=Ac6 o n t a a0;by_cases h5:5<a0
  .have ai:(5:Int)<(a0:Int):=by omega
   have a8:Bn (a0+1) (.mk 14 o n t [a])=true:=by rw[a4];simpa using h5
   clear a4 h5;go_wp2_with fail;refine (put_l a7.wr [40] (by simp)).mono ?_;rintro e w5 ⟨rfl,l5,am,h5,al⟩;have aa:=a7.step h5 al;clear l0 l1 c0 x0 x1 x2 x3 x4 x5 x6 x7;have l0:g0<w5:=aa.lt (q:=(g0,Am b)) (by simp);have l1:g0+1<w5:=aa.lt (q:=(g0+1,xBox _)) (by simp;rfl);have c0:=cell_of_one (aa.kept (g0,Am b) (by simp));obtain⟨x0,x1,x2,x3,x4,x5,x6,x7,_⟩:=Ab (aa.kept _ (AC));go_wp2_with fail;refine (put_l aa.wr [33] (by simp)).mono ?_;rintro e w6 ⟨rfl,l6,ae,h6,ag⟩;have a3:=aa.step h6 ag;clear l0 l1 c0 x0 x1 x2 x3 x4 x5 x6 x7;have l0:g0<w6:=a3.lt (q:=(g0,Am b)) (by simp);have l1:g0+1<w6:=a3.lt (q:=(g0+1,xBox _)) (by simp;rfl);have c0:=cell_of_one (a3.kept (g0,Am b) (by simp));obtain⟨x0,x1,x2,x3,x4,x5,x6,x7,_⟩:=Ab (a3.kept _ (AC));obtain⟨g,o',u0,u1,u2,u3,u4,u5,u6,u7,rfl,hg,⟨e0,e1,e2,e3,e4,e5,e6,e7⟩,ab⟩:=ad 0 a w6 rfl a3.fw;simp only[Nat.zero_mul,Nat.add_zero] at e0 e1 e2 e3 e4 e5 e6 e7;have hC:=aj 5 l6 tabs _ w6.drew (by omega) h6.drew (ab.since (Since.drewN _ w6 1));clear ab;rcases hqa:gE a with _ | za
   .rw[hqa] at hC
    go_upto_region 26 with fail
    go_region_with (go_at_call 156;refine hC.mono ?_;rintro e w7 ⟨rfl,l7,a5,h7,a9⟩;refine skip_way w7 (λ _=>leave1P h7 (by simp) (λ l8 w8 h8 hf8=>show WPost base b l tabs w res _ _ by rw[a6.out,hqa];exact⟨rfl,l8,a5,h8,(a3.fw.trans (AX 1 a9)).trans hf8⟩)) ?_)
    all_goals trivial
   .rw[hqa] at hC
    go_upto_region 26 with fail
    go_region_with (go_at_call 156;refine hC.mono ?_;rintro e w7 ⟨rfl,l7,ah,h7,a9⟩)
    all_goals
     go_wp2;exact leave1 rfl h7 (by simp) (λ l8 w8 hw8 h8 hf8=>show WPost base b l tabs w res _ _ by rw[a6.out,hqa,Option.map_some,a8];exact⟨rfl,l8,by simpa [withinS] using ((am.trans ae).trans ah).trans hw8,h8,(a3.fw.trans (AX 1 a9)).trans hf8⟩)
  .have ai:¬(5:Int)<(a0:Int):=by omega
   have a8:Bn (a0+1) (.mk 14 o n t [a])=false:=by rw[a4];simpa using h5
   clear a4 h5;go_wp2_with fail;refine (put_l a7.wr [33] (by simp)).mono ?_;rintro e w6 ⟨rfl,l6,ae,h6,ag⟩;have a3:=a7.step h6 ag;clear l0 l1 c0 x0 x1 x2 x3 x4 x5 x6 x7;have l0:g0<w6:=a3.lt (q:=(g0,Am b)) (by simp);have l1:g0+1<w6:=a3.lt (q:=(g0+1,xBox _)) (by simp;rfl);have c0:=cell_of_one (a3.kept (g0,Am b) (by simp));obtain⟨x0,x1,x2,x3,x4,x5,x6,x7,_⟩:=Ab (a3.kept _ (AC));obtain⟨g,o',u0,u1,u2,u3,u4,u5,u6,u7,rfl,hg,⟨e0,e1,e2,e3,e4,e5,e6,e7⟩,ab⟩:=ad 0 a w6 rfl a3.fw;simp only[Nat.zero_mul,Nat.add_zero] at e0 e1 e2 e3 e4 e5 e6 e7;have hC:=aj 5 l6 tabs _ w6.drew (by omega) h6.drew (ab.since (Since.drewN _ w6 1));clear ab;rcases hqa:gE a with _ | za
   .rw[hqa] at hC
    go_upto_region 26 with fail
    go_region_with (go_at_call 156;refine hC.mono ?_;rintro e w7 ⟨rfl,l7,a5,h7,a9⟩;refine skip_way w7 (λ _=>leaveP (show WPost base b l tabs w res _ _ by rw[a6.out,hqa];exact⟨rfl,l7,a5,h7,a3.fw.trans (AX 1 a9)⟩)) ?_)
    all_goals trivial
   .rw[hqa] at hC
    go_upto_region 26 with fail
    go_region_with (go_at_call 156;refine hC.mono ?_;rintro e w7 ⟨rfl,l7,ah,h7,a9⟩)
    all_goals
     go_wp2;exact leave0 rfl (show WPost base b l tabs w res _ _ by rw[a6.out,hqa,Option.map_some,a8];exact⟨rfl,l7,by simpa [withinS] using ae.trans ah,h7,a3.fw.trans (AX 1 a9)⟩)
end
section
open Go.RowKit
theorem Hr{base:Nat}{e:GE}{ss:List GS}(hX:De base b e)(hB:Lf base b ss){l:AQ}{tabs:Nat}(hd:tabs+1+Eg ss<=1099511627776)(hW:Wr base b l tabs w)(hx:IsGE (λ k=>k<base) w e cs)(hv:Bz (λ k=>k<base) w ss v) :
  AA 155 #[Bg b,.agg cs.toArray,v] w λ r w'=>WPost base b l tabs w ((gE e).bind λ x=>(gBlk (gSts ss (indT tabs)) (indT tabs) ss.isEmpty).map λ y=>x ++ ([32] ++ y)) r w':=by
 obtain⟨res,a0⟩:∃res:Option (List UInt8),Aside (res=(gE e).bind λ x=>(gBlk (gSts ss (indT tabs)) (indT tabs) ss.isEmpty).map λ y=>x ++ ([32] ++ y)):=⟨_,show _=_ from rfl⟩;rw[<-a0.out]
 match cs,hx.len,hx with
 | [c0,c1,c2,c3,c4,c5,c6,c7],_,hx=>
 have hE:=(AY hW).alloc #[c0,c1,c2,c3,c4,c5,c6,c7] 48 (by decide);clear hW;go_enter func155,ntmps155;go_wp2_with fail;generalize w.alloc (.cells #[c0,c1,c2,c3,c4,c5,c6,c7] 48)=w1 at *;generalize w.heap.size=g at *;have hC:=hX.top hE.wr (hx.since hE.fw.since);have a8:=hE.fw;refine hC.mono ?_;rcases hq:gE e with _ | x
 .rintro r w3 ⟨rfl,l3,a3,h3,a5⟩;refine⟨rfl,?_⟩;rw[a0.out,hq];exact⟨rfl,l3,a3,h3,a8.trans a5⟩
 rintro r w3 ⟨rfl,l3,aa,h3,a5⟩;clear hC hE;go_wp2_with fail;refine (put_l h3 [32] (by simp)).mono ?_;rintro r w4 ⟨rfl,l4,a9,h4,ab⟩;have a7:=(a8.trans a5).trans ab;have hC:=hB l4 tabs v w4 hd h4 (hv.since a7.since);go_wp2_with fail;refine hC.mono ?_;rcases hqb:gBlk (gSts ss (indT tabs)) (indT tabs) ss.isEmpty with _ | y
 .rintro r w5 ⟨rfl,l5,a4,h5,a6⟩;refine⟨rfl,?_⟩;rw[a0.out,hq,hqb];exact⟨rfl,l5,a4,h5,a7.trans a6⟩
 .rintro r w5 ⟨rfl,l5,ad,h5,a6⟩;go_wp2
  go_end0
  rw[a0.out,hq,hqb];exact⟨rfl,l5,by simpa using (aa.trans a9).trans ad,h5,a7.trans a6⟩
theorem IsGE.shows{B:AS}{e:GE}(h:IsGE B w e cs):∃(k o n:Int) (t:ByteArray) (x:Int) (y:ByteArray) (a:Option Addr) (m q:Nat) (p:Int),cs=[iv k,iv o,iv n,.string t,iv x,.string y,.slice a m q,iv p]:=by
 obtain⟨k,o,n,t,args⟩:=e;rw[IsGE] at h;obtain⟨x,p,y,sl,row,rfl,hr,_⟩:=h;obtain⟨ao,cap,rfl,_⟩:=hr.slice;exact⟨_,_,_,_,_,_,_,_,_,_,rfl⟩
theorem Rt(a c:AQ):((⟨a.toArray⟩ ++ ⟨c.toArray⟩:ByteArray))=⟨(a ++ c).toArray⟩:=by
 apply ByteArray.ext;simp[ByteArray.data_append]
theorem Co(h:gName x=true):x.length<=16:=by
 cases x with
 | nil=>simp
 | cons c r=>simp[gName,wordB] at h;simp;omega
abbrev gsBox(k:Int)(n:AQ)(x:Int)(f:Bool)(y:Int)(s1 s2 s3:Value)(p:Int):Array Value:=#[iv k,.string ⟨n.toArray⟩,iv x,.bool f,iv y,s1,s2,s3,iv p]
abbrev sks(g0:Nat)(S X:Array Value):List (Nat × Obj):=[(g0+1,xBox X),(g0,sBox S)]
theorem In.sboxes{base:Nat}{l:AQ}{tabs:Nat}(h:Wr base b l tabs w)(S X:Array Value):In base b (sks w S X) l tabs w ((w.alloc (sBox S)).alloc (xBox X)):=by
 have:=((AY h).alloc S 46 (by decide)).alloc X 48 (by decide);simpa [sks] using this
theorem Ua{base:Nat}{k:Int}{n:AQ}{es:List GE}{bo el:List GS}{l:AQ}{tabs:Nat}(hW:Wr base b l tabs w)(hx:IsGS (λ k=>k<base) w (.mk k n es bo el) cs)(h1:es.length≠1)(h2:es.length≠2\/k≠2) :
  AA 128 #[Bg b,.agg cs.toArray] w λ r w'=>WPost base b l tabs w none r w':=by
 rw[IsGS] at hx;obtain⟨x,y,p,f,s1,s2,s3,r1,r2,r3,rfl,a4,a6,a0,ab,a5,a7⟩:=hx;obtain⟨a1,q1,rfl,a9⟩:=a4.slice;obtain⟨a2,q2,rfl,aa⟩:=a0.slice;obtain⟨a3,q3,rfl,a8⟩:=a5.slice;have hE:=(AY hW).alloc (gsBox k n x f y (.slice a1 es.length q1) (.slice a2 bo.length q2) (.slice a3 el.length q3) p) 46 (by decide);have e1:((es.length:Int) == 1)=false:=by rw[beq_eq_false_iff_ne];omega
 clear a4 a6 a0 ab a5 a7 a9 aa a8 hW;generalize es.length=ne at *;by_cases e2:ne=2
 .have e3:(k == 2)=false:=by rw[beq_eq_false_iff_ne];omega
  subst e2;go_enter func128,ntmps128;go_wp2_with fail;refine (need_no _).mono ?_;rintro e w3 ⟨rfl,rfl⟩;exact⟨rfl,rfl,l,tabs,hE.wr,hE.fw⟩
 .have e3:((ne:Int) == 2)=false:=by rw[beq_eq_false_iff_ne];omega
  go_enter func128,ntmps128;go_wp2_with fail;refine (need_no _).mono ?_;rintro e w3 ⟨rfl,rfl⟩;exact⟨rfl,rfl,l,tabs,hE.wr,hE.fw⟩
end
section
open Go.RowKit
open Px (opL opX dg lv)
theorem Ya{base:Nat}{o n:Int}{t:AQ}{k:Int}{a0:Nat}{l:AQ}{tabs:Nat}(hW:Wr base b l tabs w)(hx:IsGE (λ k=>k<base) w (.mk k o n t []) cs)(hk:k≠1/\k≠2/\k≠3/\k≠6/\k≠7/\k≠12/\k≠13/\k≠14/\k≠15)(ae:a0<=6) :
  AA 156 #[Bg b,.agg cs.toArray,iv a0] w λ r w'=>WPost base b l tabs w (none) r w':=by
 rw[IsGE] at hx;obtain⟨x,p,y,sl,row,rfl,hr,ha⟩:=hx;obtain⟨ao,cap,rfl,hm⟩:=hr.slice;obtain⟨res,a4⟩:∃res:Option (List UInt8),Aside (res=none):=⟨_,show _=_ from rfl⟩;rw[<-a4.out];have q1:(k == 1)=false:=by simpa using hk.1
 have q2:(k == 2)=false:=by simpa using hk.2.1
 have q3:(k == 3)=false:=by simpa using hk.2.2.1
 have q6:(k == 6)=false:=by simpa using hk.2.2.2.1
 have q7:(k == 7)=false:=by simpa using hk.2.2.2.2.1
 have ad:(k == 12)=false:=by simpa using hk.2.2.2.2.2.1
 have aa:(k == 13)=false:=by simpa using hk.2.2.2.2.2.2.1
 have ab:(k == 14)=false:=by simpa using hk.2.2.2.2.2.2.2.1
 have a9:(k == 15)=false:=by simpa using hk.2.2.2.2.2.2.2.2
 clear ha hr hm;have hE:=AZ hW (geBox k o n t x y (.slice ao 0 cap) p);have hA:=Cj k o n t x y ao 0 cap p;rw[show nArgs k 0=0 by unfold nArgs;rw[if_neg hk.2.2.2.2.1,if_neg (by omega),if_neg (by omega)]] at hA;clear hW;refine A8 func156 rfl ?_;simp only[ntmps156,size_toArray,length_cons,length_nil,Nat.reduceAdd,Nat.reduceSub,Array.replicate_succ,Array.replicate_zero,push_toArray,append_toArray,nil_append,cons_append]
 go_upto_region 1 with fail
 generalize ((w.alloc (Am b)).alloc (xBox (geBox k o n t x y (.slice ao 0 cap) p)))=w2 at *;generalize w.heap.size=g0 at *
 go_cut [] from 6 to 12 (λ wc=>In base b (eks b g0 (geBox k o n t x y (.slice ao 0 cap) p)) l tabs w wc)
 case first=>
  have l0:g0<w2:=hE.lt (q:=(g0,Am b)) (by simp);have l1:g0+1<w2:=hE.lt (q:=(g0+1,xBox _)) (by simp;rfl);obtain⟨x0,x1,x2,x3,x4,x5,x6,x7,_⟩:=Ab (hE.kept _ (AC))
  go_region_with (first
   |(go_at_call 178;refine (hA _).mono ?_;rintro e w3 ⟨rfl,a8⟩;have a5:=hE.drew.call a8;have l3:g0+1<w3:=a5.lt (q:=(g0+1,xBox _)) (by simp;rfl);obtain⟨y0,y1,y2,y3,y4,y5,y6,y7,_⟩:=Ab (a5.kept _ (AC)))
   |(go_at_call 89;refine (need_ok _).mono ?_;rintro e w4 ⟨rfl,rfl⟩))
  all_goals (go_wp2_with fail;go_meet;exact a5)
 case rest=>
  clear hE hA;have hE:=hcut;have l0:g0<wc:=hE.lt (q:=(g0,Am b)) (by simp);have l1:g0+1<wc:=hE.lt (q:=(g0+1,xBox _)) (by simp;rfl);have c0:=cell_of_one (hE.kept (g0,Am b) (by simp));obtain⟨x0,x1,x2,x3,x4,x5,x6,x7,_⟩:=Ab (hE.kept _ (AC));have hL:=Dd k o n hk.2.2.2.2.2.2.2.2 t x y ao 0 cap p wc;rw[if_neg (by omega)] at hL;have a7:¬(6:Int)<(a0:Int):=by omega
  go_wp2_with fail
  refine hL.mono ?_;rintro e w4 ⟨rfl,a6⟩;have a3:=hE.call a6;clear l0 l1 c0 x0 x1 x2 x3 x4 x5 x6 x7 hL hE hcut a6;have l0:g0<w4:=a3.lt (q:=(g0,Am b)) (by simp);have l1:g0+1<w4:=a3.lt (q:=(g0+1,xBox _)) (by simp;rfl);have c0:=cell_of_one (a3.kept (g0,Am b) (by simp));obtain⟨x0,x1,x2,x3,x4,x5,x6,x7,_⟩:=Ab (a3.kept _ (AC));clear hk;go_wp2_with fail;refine (need_no _).mono ?_;rintro e w5 ⟨rfl,rfl⟩;exact λ _=>leaveP (show WPost base b l tabs w res _ _ by rw[a4.out];exact⟨rfl,l,tabs,a3.wr,a3.fw⟩)
theorem Yb{base:Nat}{o n:Int}{t:AQ}{a c:GE}{a0:Nat}{l:AQ}{tabs:Nat}(hW:Wr base b l tabs w)(hx:IsGE (λ k=>k<base) w (.mk 15 o n t [a,c]) cs)(a6:gL o=0)(a8:a0<=6) :
  AA 156 #[Bg b,.agg cs.toArray,iv a0] w λ r w'=>WPost base b l tabs w (none) r w':=by
 rw[IsGE] at hx;obtain⟨x,p,y,sl,row,rfl,hr,ha⟩:=hx;obtain⟨ao,cap,rfl,hm⟩:=hr.slice;obtain⟨res,a3⟩:∃res:Option (List UInt8),Aside (res=none):=⟨_,show _=_ from rfl⟩;rw[<-a3.out];clear ha hr hm;have hE:=AZ hW (geBox 15 o n t x y (.slice ao 2 cap) p);have hA:=Cj 15 o n t x y ao 2 cap p;rw[show nArgs 15 2=2 from rfl] at hA;clear hW;refine A8 func156 rfl ?_;simp only[ntmps156,size_toArray,length_cons,length_nil,Nat.reduceAdd,Nat.reduceSub,Array.replicate_succ,Array.replicate_zero,push_toArray,append_toArray,nil_append,cons_append]
 go_upto_region 1 with fail
 generalize ((w.alloc (Am b)).alloc (xBox (geBox 15 o n t x y (.slice ao 2 cap) p)))=w2 at *;generalize w.heap.size=g0 at *
 go_cut [] from 6 to 12 (λ wc=>In base b (eks b g0 (geBox 15 o n t x y (.slice ao 2 cap) p)) l tabs w wc)
 case first=>
  have l0:g0<w2:=hE.lt (q:=(g0,Am b)) (by simp);have l1:g0+1<w2:=hE.lt (q:=(g0+1,xBox _)) (by simp;rfl);obtain⟨x0,x1,x2,x3,x4,x5,x6,x7,_⟩:=Ab (hE.kept _ (AC))
  go_region_with (first
   |(go_at_call 178;refine (hA _).mono ?_;rintro e w3 ⟨rfl,a7⟩;have a4:=hE.drew.call a7;have l3:g0+1<w3:=a4.lt (q:=(g0+1,xBox _)) (by simp;rfl);obtain⟨y0,y1,y2,y3,y4,y5,y6,y7,_⟩:=Ab (a4.kept _ (AC)))
   |(go_at_call 89;refine (need_ok _).mono ?_;rintro e w4 ⟨rfl,rfl⟩))
  all_goals (go_wp2_with fail;go_meet;exact a4)
 case rest=>
  clear hE hA;have hE:=hcut;have l0:g0<wc:=hE.lt (q:=(g0,Am b)) (by simp);have l1:g0+1<wc:=hE.lt (q:=(g0+1,xBox _)) (by simp;rfl);have c0:=cell_of_one (hE.kept (g0,Am b) (by simp));obtain⟨x0,x1,x2,x3,x4,x5,x6,x7,_⟩:=Ab (hE.kept _ (AC));have hL:=Nn o n t x y ao 2 cap p wc;rw[if_pos a6] at hL;go_wp2_with fail;refine hL.mono ?_;rintro e w4 ⟨rfl,a5⟩;exact λ _=>leaveP (show WPost base b l tabs w res _ _ by rw[a3.out];exact⟨rfl,l,tabs,(hE.call a5).wr,(hE.call a5).fw⟩)
def bnT(m:Nat)(a c:GE):Option (List UInt8):=(gE a).bind λ x=>(gE c).map λ y=>withinS (Bn (lv m) a) x ++ 32 :: (opX m ++ 32 :: withinS (Bn (opL m+1) c) y)
theorem An5(m n:Int)(t:AQ)(a c:GE)(a0:Nat):Bn (a0+1) (.mk 15 m n t [a,c])=decide (gL m<a0+1):=by
 simp[Bn,GE.k,GE.o];rfl
theorem Ac7{base:Nat}{n:Int}{t:AQ}{a c:GE}{a0:Nat}{l:AQ}{tabs:Nat}(hW:Wr base b l tabs w)(hx:IsGE (λ k=>k<base) w (.mk 15 m n t [a,c]) cs)(h1:1<=m)(h2:m<=13)(af:De base b a)(ag:De base b c)(ar:a0<=6) :
  AA 156 #[Bg b,.agg cs.toArray,iv a0] w λ r w'=>WPost base b l tabs w ((bnT m a c).map λ x=>withinS (Bn (a0+1) (.mk 15 m n t [a,c])) x) r w':=by
 rw[IsGE] at hx;obtain⟨x,p,y,sl,row,rfl,hr,ha⟩:=hx;obtain⟨ao,cap,rfl,hm⟩:=hr.slice;obtain⟨res,a5⟩:∃res:Option (List UInt8),Aside (res=(bnT m a c).map λ x=>withinS (Bn (a0+1) (.mk 15 m n t [a,c])) x):=⟨_,show _=_ from rfl⟩;rw[<-a5.out];have ai:gL (m:Int)≠0:=by rw[gL_nat];have:=(Ub m h1 h2).1;omega
 have aa:∀(w':World),FW base b w w'->IsGE (λ k=>k<base) w' (.mk 15 m n t [a,c]) (geBox 15 m n t x y (.slice ao 2 cap) p).toList:=by
  intro w' hF;rw[IsGE];exact⟨x,p,y,_,row,rfl,hr.since hF.since,ha.since hF.since⟩
 clear hr ha hm;have hE:=AZ hW (geBox 15 m n t x y (.slice ao 2 cap) p);have hA:=Cj 15 m n t x y ao 2 cap p;rw[show nArgs 15 2=2 from rfl] at hA;clear hW;refine A8 func156 rfl ?_;simp only[ntmps156,size_toArray,length_cons,length_nil,Nat.reduceAdd,Nat.reduceSub,Array.replicate_succ,Array.replicate_zero,push_toArray,append_toArray,nil_append,cons_append]
 go_upto_region 1 with fail
 generalize ((w.alloc (Am b)).alloc (xBox (geBox 15 m n t x y (.slice ao 2 cap) p)))=w2 at *;generalize w.heap.size=g0 at *
 go_cut [] from 6 to 12 (λ wc=>In base b (eks b g0 (geBox 15 m n t x y (.slice ao 2 cap) p)) l tabs w wc)
 case first=>
  have l0:g0<w2:=hE.lt (q:=(g0,Am b)) (by simp);have l1:g0+1<w2:=hE.lt (q:=(g0+1,xBox _)) (by simp;rfl);obtain⟨x0,x1,x2,x3,x4,x5,x6,x7,_⟩:=Ab (hE.kept _ (AC))
  go_region_with (first
   |(go_at_call 178;refine (hA _).mono ?_;rintro e w3 ⟨rfl,al⟩;have ad:=hE.drew.call al;have l3:g0+1<w3:=ad.lt (q:=(g0+1,xBox _)) (by simp;rfl);obtain⟨y0,y1,y2,y3,y4,y5,y6,y7,_⟩:=Ab (ad.kept _ (AC)))
   |(go_at_call 89;refine (need_ok _).mono ?_;rintro e w4 ⟨rfl,rfl⟩))
  all_goals (go_wp2_with fail;go_meet;exact ad)
 case rest=>
  clear hE hA;have hE:=hcut;have l0:g0<wc:=hE.lt (q:=(g0,Am b)) (by simp);have l1:g0+1<wc:=hE.lt (q:=(g0+1,xBox _)) (by simp;rfl);have c0:=cell_of_one (hE.kept (g0,Am b) (by simp));obtain⟨x0,x1,x2,x3,x4,x5,x6,x7,_⟩:=Ab (hE.kept _ (AC));have hL:=Nn m n t x y ao 2 cap p wc;rw[if_neg ai] at hL;go_wp2_with fail;refine hL.mono ?_;rintro e w4 ⟨rfl,ah⟩;have a6:=hE.call ah;clear l0 l1 c0 x0 x1 x2 x3 x4 x5 x6 x7 hL hE hcut ah;have l0:g0<w4:=a6.lt (q:=(g0,Am b)) (by simp);have l1:g0+1<w4:=a6.lt (q:=(g0+1,xBox _)) (by simp;rfl);have c0:=cell_of_one (a6.kept (g0,Am b) (by simp));obtain⟨x0,x1,x2,x3,x4,x5,x6,x7,_⟩:=Ab (a6.kept _ (AC));have a3:=An5 m n t a c a0;have au:gL (m:Int)=opL m:=gL_nat m;obtain⟨aq,am⟩:=Ub m h1 h2;generalize hgq:gL (m:Int)=q at *;by_cases h5:q<a0+1
  .have ae:(((q - 1:Nat)):Int)<(a0:Int):=by omega
   have a8:Bn (a0+1) (.mk 15 m n t [a,c])=true:=by rw[a3];simpa using h5
   clear a3 h5;go_wp2_with fail;refine (put_l a6.wr [40] (by simp)).mono ?_;rintro e w5 ⟨rfl,l5,ak,h5,aj⟩;have a7:=a6.step h5 aj;clear l0 l1 c0 x0 x1 x2 x3 x4 x5 x6 x7;have l0:g0<w5:=a7.lt (q:=(g0,Am b)) (by simp);have l1:g0+1<w5:=a7.lt (q:=(g0+1,xBox _)) (by simp;rfl);have c0:=cell_of_one (a7.kept (g0,Am b) (by simp));obtain⟨x0,x1,x2,x3,x4,x5,x6,x7,_⟩:=Ab (a7.kept _ (AC));have hC:=Lg h1 h2 af ag a7.wr (aa w5 a7.fw)
   change Calls _ _ _ _ (λ r w'=>WPost base b l5 tabs w5 (bnT m a c) r w') at hC
   clear aa;rcases hqa:bnT m a c with _ | z
   .rw[hqa] at hC;go_wp2_with fail;refine hC.mono ?_;rintro e w6 ⟨rfl,l6,a4,h6,a9⟩;exact λ _=>leave1P h6 (by simp) (λ l8 w8 h8 hf8=>show WPost base b l tabs w res _ _ by rw[a5.out,hqa];exact⟨rfl,l8,a4,h8,(a7.fw.trans a9).trans hf8⟩)
   .rw[hqa] at hC;go_wp2_with fail;refine hC.mono ?_;rintro e w6 ⟨rfl,l6,ab,h6,a9⟩;go_wp2;exact leave1 rfl h6 (by simp) (λ l8 w8 hw8 h8 hf8=>show WPost base b l tabs w res _ _ by rw[a5.out,hqa,Option.map_some,a8];exact⟨rfl,l8,by simpa [withinS] using (ak.trans ab).trans hw8,h8,(a7.fw.trans a9).trans hf8⟩)
  .have ae:¬(((q - 1:Nat)):Int)<(a0:Int):=by omega
   have a8:Bn (a0+1) (.mk 15 m n t [a,c])=false:=by rw[a3];simpa using h5
   clear a3 h5;have hC:=Lg h1 h2 af ag a6.wr (aa w4 a6.fw)
   change Calls _ _ _ _ (λ r w'=>WPost base b l tabs w4 (bnT m a c) r w') at hC
   clear aa;rcases hqa:bnT m a c with _ | z
   .rw[hqa] at hC;go_wp2_with fail;refine hC.mono ?_;rintro e w6 ⟨rfl,l6,a4,h6,a9⟩;exact λ _=>leaveP (show WPost base b l tabs w res _ _ by rw[a5.out,hqa];exact⟨rfl,l6,a4,h6,a6.fw.trans a9⟩)
   .rw[hqa] at hC;go_wp2_with fail;refine hC.mono ?_;rintro e w6 ⟨rfl,l6,ab,h6,a9⟩;go_wp2;exact leave0 rfl (show WPost base b l tabs w res _ _ by rw[a5.out,hqa,Option.map_some,a8];exact⟨rfl,l6,by simpa [withinS] using ab,h6,a6.fw.trans a9⟩)
theorem Az2(args:Array Value)(w:World):(callFunc 182 args).run prog w=.ok (.enter 182 args) w:=enters_of func182 (by kernel_rfl) rfl args w
theorem X7{base:Nat}{o n:Int}{t:AQ}{args:List GE}{a3:Nat}{l:AQ}{tabs:Nat}(hW:Wr base b l tabs w)(hx:IsGE (λ k=>k<base) w (.mk 7 o n t args) cs)(h1:t.length<=maxLen)(hX:∀e∈args,De base b e)(aj:a3<=6) :
  AA 156 #[Bg b,.agg cs.toArray,iv a3] w λ r w'=>WPost base b l tabs w (if gName t then (allS (args.map gE)).map λ xs=>t ++ 40 :: (commasS xs ++ [41]) else none) r w':=by
 rw[IsGE] at hx;obtain⟨x,p,y,sl,row,rfl,hr,ha⟩:=hx;obtain⟨ao,cap,rfl,hm⟩:=hr.slice;obtain⟨res,a4⟩:∃res:Option (List UInt8),Aside (res=if gName t then (allS (args.map gE)).map λ xs=>t ++ 40 :: (commasS xs ++ [41]) else none):=⟨_,show _=_ from rfl⟩;rw[<-a4.out];have ad:=hW.lt;unfold maxLen at hm;have hE:=AZ hW (geBox 7 o n t x y (.slice ao args.length cap) p);have hA:=Cj 7 o n t x y ao args.length cap p;rw[show nArgs 7 args.length=args.length by simp[nArgs]] at hA;clear hW;refine A8 func156 rfl ?_;simp only[ntmps156,size_toArray,length_cons,length_nil,Nat.reduceAdd,Nat.reduceSub,Array.replicate_succ,Array.replicate_zero,push_toArray,append_toArray,nil_append,cons_append]
 go_upto_region 1 with fail
 generalize ((w.alloc (Am b)).alloc (xBox (geBox 7 o n t x y (.slice ao args.length cap) p)))=w2 at *;generalize w.heap.size=g0 at *
 go_cut [] from 6 to 12 (λ wc=>In base b (eks b g0 (geBox 7 o n t x y (.slice ao args.length cap) p)) l tabs w wc)
 case first=>
  have l0:g0<w2:=hE.lt (q:=(g0,Am b)) (by simp);have l1:g0+1<w2:=hE.lt (q:=(g0+1,xBox _)) (by simp;rfl);obtain⟨x0,x1,x2,x3,x4,x5,x6,x7,_⟩:=Ab (hE.kept _ (AC))
  go_region_with (first
   |(go_at_call 178;refine (hA _).mono ?_;rintro e w3 ⟨rfl,ag⟩;have aa:=hE.drew.call ag;have l3:g0+1<w3:=aa.lt (q:=(g0+1,xBox _)) (by simp;rfl);obtain⟨y0,y1,y2,y3,y4,y5,y6,y7,_⟩:=Ab (aa.kept _ (AC)))
   |(go_at_call 89;refine (need_ok _).mono ?_;rintro e w4 ⟨rfl,rfl⟩))
  all_goals (go_wp2_with fail;go_meet;exact aa)
 case rest=>
  clear hE hA;have hE:=hcut;have l0:g0<wc:=hE.lt (q:=(g0,Am b)) (by simp);have l1:g0+1<wc:=hE.lt (q:=(g0+1,xBox _)) (by simp;rfl);have c0:=cell_of_one (hE.kept (g0,Am b) (by simp));obtain⟨x0,x1,x2,x3,x4,x5,x6,x7,_⟩:=Ab (hE.kept _ (AC));have hL:=Dd 7 o n (by decide) t x y ao args.length cap p wc;rw[if_neg (by decide)] at hL;have ae:¬(6:Int)<(a3:Int):=by omega
  go_wp2_with fail
  refine hL.mono ?_;rintro e w4 ⟨rfl,ab⟩;have a5:=hE.call ab;clear l0 l1 c0 x0 x1 x2 x3 x4 x5 x6 x7 hL hE hcut ab;have l0:g0<w4:=a5.lt (q:=(g0,Am b)) (by simp);have l1:g0+1<w4:=a5.lt (q:=(g0+1,xBox _)) (by simp;rfl);have c0:=cell_of_one (a5.kept (g0,Am b) (by simp));obtain⟨x0,x1,x2,x3,x4,x5,x6,x7,_⟩:=Ab (a5.kept _ (AC));have hN:=Nu t w4.drew h1;have ai:∀(fn:Fn) (first cap:Array Value) (w:World),(Instr.makeFunc fn first cap).run prog w=.ok (.func fn first cap) w:=λ _ _ _ _=>rfl
  rcases hgn:gName t with _ | _
  .rw[hgn] at hN
   go_upto_region 16 with fail
   go_region_with (go_at_call 91;refine hN.mono ?_;rintro e w5 ⟨rfl,a9⟩;have a0:=a5.drew.call a9;refine skip_way w5 (λ _=>leaveP (show WPost base b l tabs w res _ _ by rw[a4.out,hgn];exact⟨rfl,l,tabs,a0.wr,a0.fw⟩)) ?_)
   all_goals trivial
  .rw[hgn] at hN;have ah:=Nw hgn
   go_upto_region 16 with fail
   go_cut [] from 53 to 57 (λ wc=>∃l5,Bk l t l5/\In base b (eks b g0 (geBox 7 o n t x y (.slice ao args.length cap) p)) l5 tabs w wc)
   case first=>
    go_region_with (first
     |(go_at_call 91;refine hN.mono ?_;rintro e w5 ⟨rfl,a9⟩;have a0:=a5.drew.call a9;have l5:g0<w5:=a0.lt (q:=(g0,Am b)) (by simp);have c5:=cell_of_one (a0.kept (g0,Am b) (by simp)))
     |(go_at_call 60;refine (put_l a0.wr t (by omega)).mono ?_;rintro e w6 ⟨rfl,l6,a8,h6,a6⟩))
    all_goals (go_wp2_with fail;go_meet;exact⟨l6,a8,a0.step h6 a6⟩)
   case rest=>
    clear l0 l1 c0 x0 x1 x2 x3 x4 x5 x6 x7 hN a5;obtain⟨l5,af,a0⟩:=hcut;have l0:g0<wc:=a0.lt (q:=(g0,Am b)) (by simp);have l1:g0+1<wc:=a0.lt (q:=(g0+1,xBox _)) (by simp;rfl);have c0:=cell_of_one (a0.kept (g0,Am b) (by simp));obtain⟨x0,x1,x2,x3,x4,x5,x6,x7,_⟩:=Ab (a0.kept _ (AC));have hC:=F8 (K:=182) (caps:=#[pt g0 0,pt (g0+1) 0]) (xs:=args.map gE) (Inv:=CallIn base b g0 (geBox 7 o n t x y (.slice ao args.length cap) p) w) a0.wr (by simp;omega) Az2 (X2 hr ha hX) (λ _ _ h hf=>h.step hf) ⟨a0.kept (g0,Am b) (by simp),a0.kept _ (AC),ad,a0.fw⟩;rw[length_map] at hC;rcases hqa:allS (args.map gE) with _ | zs
    .rw[hqa] at hC;go_wp2_with fail;refine hC.mono ?_;rintro e w6 ⟨rfl,l6,a7,h6,a6⟩;exact λ _=>leaveP (show WPost base b l tabs w res _ _ by rw[a4.out,hgn,if_pos rfl,hqa];exact⟨rfl,l6,a7,h6,a0.fw.trans a6⟩)
    .rw[hqa] at hC;go_wp2_with fail;refine hC.mono ?_;rintro e w6 ⟨rfl,l6,a8,h6,a6⟩;go_wp2;exact leave0 rfl (show WPost base b l tabs w res _ _ by rw[a4.out,hgn,if_pos rfl,hqa];exact⟨rfl,l6,af.trans a8,h6,a0.fw.trans a6⟩)
theorem An3{base:Nat}{o n:Int}{t:AQ}{a c:GE}{a0:Nat}{l:AQ}{tabs:Nat}(hW:Wr base b l tabs w)(hx:IsGE (λ k=>k<base) w (.mk 12 o n t [a,c]) cs)(ai:De base b a)(al:De base b c)(am:a0<=6) :
  AA 156 #[Bg b,.agg cs.toArray,iv a0] w λ r w'=>WPost base b l tabs w ((gE a).bind λ x=>(gE c).map λ y=>withinS (Bn 7 a) x ++ 91 :: (y ++ [93])) r w':=by
 rw[IsGE] at hx;obtain⟨x,p,y,sl,row,rfl,hr,ha⟩:=hx;obtain⟨ao,cap,rfl,hm⟩:=hr.slice;obtain⟨res,a3⟩:∃res:Option (List UInt8),Aside (res=(gE a).bind λ x=>(gE c).map λ y=>withinS (Bn 7 a) x ++ 91 :: (y ++ [93])):=⟨_,show _=_ from rfl⟩;rw[<-a3.out];have a9:=λ (q:Nat) (e:GE) (w':World) (hq:([a,c]:List GE)[q]?=some e) (hF:FW base b w w')=>C1 hr ha hF hq
 clear hr ha hm;have hE:=AZ hW (geBox 12 o n t x y (.slice ao 2 cap) p);have hA:=Cj 12 o n t x y ao 2 cap p;rw[show nArgs 12 2=2 from rfl] at hA;clear hW;refine A8 func156 rfl ?_;simp only[ntmps156,size_toArray,length_cons,length_nil,Nat.reduceAdd,Nat.reduceSub,Array.replicate_succ,Array.replicate_zero,push_toArray,append_toArray,nil_append,cons_append]
 go_upto_region 1 with fail
 generalize ((w.alloc (Am b)).alloc (xBox (geBox 12 o n t x y (.slice ao 2 cap) p)))=w2 at *;generalize w.heap.size=g0 at *
 go_cut [] from 6 to 12 (λ wc=>In base b (eks b g0 (geBox 12 o n t x y (.slice ao 2 cap) p)) l tabs w wc)
 case first=>
  have l0:g0<w2:=hE.lt (q:=(g0,Am b)) (by simp);have l1:g0+1<w2:=hE.lt (q:=(g0+1,xBox _)) (by simp;rfl);obtain⟨x0,x1,x2,x3,x4,x5,x6,x7,_⟩:=Ab (hE.kept _ (AC))
  go_region_with (first
   |(go_at_call 178;refine (hA _).mono ?_;rintro e w3 ⟨rfl,aj⟩;have aa:=hE.drew.call aj;have l3:g0+1<w3:=aa.lt (q:=(g0+1,xBox _)) (by simp;rfl);obtain⟨y0,y1,y2,y3,y4,y5,y6,y7,_⟩:=Ab (aa.kept _ (AC)))
   |(go_at_call 89;refine (need_ok _).mono ?_;rintro e w4 ⟨rfl,rfl⟩))
  all_goals (go_wp2_with fail;go_meet;exact aa)
 case rest=>
  clear hE hA;have hE:=hcut;have l0:g0<wc:=hE.lt (q:=(g0,Am b)) (by simp);have l1:g0+1<wc:=hE.lt (q:=(g0+1,xBox _)) (by simp;rfl);have c0:=cell_of_one (hE.kept (g0,Am b) (by simp));obtain⟨x0,x1,x2,x3,x4,x5,x6,x7,_⟩:=Ab (hE.kept _ (AC));have hL:=Dd 12 o n (by decide) t x y ao 2 cap p wc;rw[if_neg (by decide)] at hL;have ak:¬(6:Int)<(a0:Int):=by omega
  go_wp2_with fail
  refine hL.mono ?_;rintro e w4 ⟨rfl,ag⟩;have a4:=hE.call ag;clear l0 l1 c0 x0 x1 x2 x3 x4 x5 x6 x7 hL hE hcut ag;have l0:g0<w4:=a4.lt (q:=(g0,Am b)) (by simp);have l1:g0+1<w4:=a4.lt (q:=(g0+1,xBox _)) (by simp;rfl);have c0:=cell_of_one (a4.kept (g0,Am b) (by simp));obtain⟨x0,x1,x2,x3,x4,x5,x6,x7,_⟩:=Ab (a4.kept _ (AC));obtain⟨g,o',u0,u1,u2,u3,u4,u5,u6,u7,rfl,hg,⟨e0,e1,e2,e3,e4,e5,e6,e7⟩,a6⟩:=a9 0 a w4 rfl a4.fw;simp only[Nat.zero_mul,Nat.add_zero] at e0 e1 e2 e3 e4 e5 e6 e7;have hC:=ai 6 l tabs _ w4.drew (by omega) a4.wr.drew (a6.since (Since.drewN _ w4 1));clear a6;rcases hqa:gE a with _ | za
  .rw[hqa] at hC
   go_upto_region 19 with fail
   go_region_with (go_at_call 156;refine hC.mono ?_;rintro e w5 ⟨rfl,l5,a8,h5,ab⟩;refine skip_way w5 (λ _=>leaveP (show WPost base b l tabs w res _ _ by rw[a3.out,hqa];exact⟨rfl,l5,a8,h5,a4.fw.trans (AX 1 ab)⟩)) ?_)
   all_goals trivial
  .rw[hqa] at hC
   go_upto_region 19 with fail
   go_cut [] from 66 to 71 (λ wc=>∃l5,Bk l (withinS (Bn 7 a) za) l5/\In base b (eks b g0 (geBox 12 o n t x y (sL g o' 2 cap) p)) l5 tabs w wc)
   case first=>
    go_region_with (go_at_call 156;refine hC.mono ?_;rintro e w5 ⟨rfl,l5,ad,h5,ab⟩)
    all_goals (go_wp2_with fail;go_meet;exact⟨l5,ad,a4.step h5 (AX 1 ab)⟩)
   case rest=>
    clear l0 l1 c0 x0 x1 x2 x3 x4 x5 x6 x7 e0 e1 e2 e3 e4 e5 e6 e7 hC a4 hg;obtain⟨l5,ad,a5⟩:=hcut;have l0:g0<wc:=a5.lt (q:=(g0,Am b)) (by simp);have l1:g0+1<wc:=a5.lt (q:=(g0+1,xBox _)) (by simp;rfl);have c0:=cell_of_one (a5.kept (g0,Am b) (by simp));obtain⟨x0,x1,x2,x3,x4,x5,x6,x7,_⟩:=Ab (a5.kept _ (AC));obtain⟨g,o',u0,u1,u2,u3,u4,u5,u6,u7,af,hg,⟨e0,e1,e2,e3,e4,e5,e6,e7⟩,a6⟩:=a9 1 c wc rfl a5.fw;simp only[Option.some.injEq,Addr.mk.injEq,and_true] at af;obtain⟨rfl,rfl⟩:=af;simp only[Nat.one_mul,Nat.add_assoc,Nat.reduceAdd] at e0 e1 e2 e3 e4 e5 e6 e7;have hC:=I9 al a5.wr.drew (a6.since (Since.drewN _ wc 1));clear a6;rcases hqc:gE c with _ | zc
    .rw[hqc] at hC
     go_upto_region 20 with fail
     go_region_with (go_at_call 154;refine hC.mono ?_;rintro e w6 ⟨rfl,l6,a7,h6,ae⟩;refine skip_way w6 (λ _=>leaveP (show WPost base b l tabs w res _ _ by rw[a3.out,hqa,hqc];exact⟨rfl,l6,a7,h6,a5.fw.trans (AX 1 ae)⟩)) ?_)
     all_goals trivial
    .rw[hqc] at hC
     go_upto_region 20 with fail
     go_region_with (go_at_call 154;refine hC.mono ?_;rintro e w6 ⟨rfl,l6,ah,h6,ae⟩)
     all_goals
      go_wp2;exact leave0 rfl (show WPost base b l tabs w res _ _ by rw[a3.out,hqa,hqc];exact⟨rfl,l6,ad.trans ah,h6,a5.fw.trans (AX 1 ae)⟩)
end
section
open Go.RowKit
open Px (opL opX dg)
theorem Yd{base:Nat}{o n:Int}{t:AQ}{a3:Nat}{l:AQ}{tabs:Nat}(hW:Wr base b l tabs w)(hx:IsGE (λ k=>k<base) w (.mk 3 o n t []) cs)(af:a3<=6)(h1:t.length<=maxLen) :
  AA 156 #[Bg b,.agg cs.toArray,iv a3] w λ r w'=>WPost base b l tabs w (if plainB t then some (Fi t) else none) r w':=by
 rw[IsGE] at hx;obtain⟨x,p,y,sl,row,rfl,hr,ha⟩:=hx;obtain⟨ao,cap,rfl,hm⟩:=hr.slice;obtain⟨res,a0⟩:∃res:Option (List UInt8),Aside (res=if plainB t then some (Fi t) else none):=⟨_,show _=_ from rfl⟩;rw[<-a0.out];clear ha hr hm;have hE:=AZ hW (geBox 3 o n t x y (.slice ao 0 cap) p);have hA:=Cj 3 o n t x y ao 0 cap p;rw[show nArgs 3 0=0 from rfl] at hA;clear hW;refine A8 func156 rfl ?_;simp only[ntmps156,size_toArray,length_cons,length_nil,Nat.reduceAdd,Nat.reduceSub,Array.replicate_succ,Array.replicate_zero,push_toArray,append_toArray,nil_append,cons_append]
 go_upto_region 1 with fail
 generalize ((w.alloc (Am b)).alloc (xBox (geBox 3 o n t x y (.slice ao 0 cap) p)))=w2 at *;generalize w.heap.size=g0 at *
 go_cut [] from 6 to 12 (λ wc=>In base b (eks b g0 (geBox 3 o n t x y (.slice ao 0 cap) p)) l tabs w wc)
 case first=>
  have l0:g0<w2:=hE.lt (q:=(g0,Am b)) (by simp);have l1:g0+1<w2:=hE.lt (q:=(g0+1,xBox _)) (by simp;rfl);obtain⟨x0,x1,x2,x3,x4,x5,x6,x7,_⟩:=Ab (hE.kept _ (AC))
  go_region_with (first
   |(go_at_call 178;refine (hA _).mono ?_;rintro e w3 ⟨rfl,ae⟩;have a7:=hE.drew.call ae;have l3:g0+1<w3:=a7.lt (q:=(g0+1,xBox _)) (by simp;rfl);obtain⟨y0,y1,y2,y3,y4,y5,y6,y7,_⟩:=Ab (a7.kept _ (AC)))
   |(go_at_call 89;refine (need_ok _).mono ?_;rintro e w4 ⟨rfl,rfl⟩))
  all_goals (go_wp2_with fail;go_meet;exact a7)
 case rest=>
  clear hE hA;have hE:=hcut;have l0:g0<wc:=hE.lt (q:=(g0,Am b)) (by simp);have l1:g0+1<wc:=hE.lt (q:=(g0+1,xBox _)) (by simp;rfl);have c0:=cell_of_one (hE.kept (g0,Am b) (by simp));obtain⟨x0,x1,x2,x3,x4,x5,x6,x7,_⟩:=Ab (hE.kept _ (AC));have hL:=Dd 3 o n (by decide) t x y ao 0 cap p wc;rw[if_neg (by decide)] at hL;have ad:¬(6:Int)<(a3:Int):=by omega
  go_wp2_with fail
  refine hL.mono ?_;rintro e w4 ⟨rfl,a8⟩;have a5:=hE.call a8;clear l0 l1 c0 x0 x1 x2 x3 x4 x5 x6 x7 hL hE hcut a8;have l0:g0<w4:=a5.lt (q:=(g0,Am b)) (by simp);have l1:g0+1<w4:=a5.lt (q:=(g0+1,xBox _)) (by simp;rfl);have c0:=cell_of_one (a5.kept (g0,Am b) (by simp));obtain⟨x0,x1,x2,x3,x4,x5,x6,x7,_⟩:=Ab (a5.kept _ (AC));have hN:AA 181 #[.string ⟨t.toArray⟩] w4.drew λ e w'=>Ju w4.drew res e w':=by
   rw[a0.out];exact T2 t w4.drew h1
  go_upto_region 12 with fail
  rcases hq:res with _ | z
  .rw[hq] at hN;clear a0
   go_region_with (go_at_call 181;refine hN.mono ?_;rintro e w5 ⟨rfl,a6⟩;have a4:=a5.drew.call a6;refine skip_way w5 (λ _=>leaveP (show WPost base b l tabs w res _ _ by rw[hq];exact⟨rfl,l,tabs,a4.wr,a4.fw⟩)) ?_)
   all_goals trivial
  .rw[hq] at hN;have ab:z.length<=1099511627776:=by
    have:=a0.out;rw[hq] at this;split at this
    .rename_i hpl;simp only[Option.some.injEq] at this;subst this;simp only[plainB,Bool.and_eq_true,decide_eq_true_eq] at hpl;have:=K1 t;simp[Fi];omega
    .cases this
   clear a0
   go_region_with (first
    |(go_at_call 181;refine hN.mono ?_;rintro e w5 ⟨rfl,a6⟩;have a4:=a5.drew.call a6;have l5:g0<w5:=a4.lt (q:=(g0,Am b)) (by simp);have c5:=cell_of_one (a4.kept (g0,Am b) (by simp)))
    |(go_at_call 60;refine (put_l a4.wr z ab).mono ?_;rintro e w6 ⟨rfl,l6,aa,h6,a9⟩))
   all_goals
    go_wp2;exact leave0 rfl (show WPost base b l tabs w res _ _ by rw[hq];exact⟨rfl,l6,aa,h6,a4.fw.trans a9⟩)
theorem Yc{base:Nat}{o n:Int}{t:AQ}{a3:Nat}{l:AQ}{tabs:Nat}(hW:Wr base b l tabs w)(hx:IsGE (λ k=>k<base) w (.mk 2 o n t []) cs)(af:a3<=6)  :
  AA 156 #[Bg b,.agg cs.toArray,iv a3] w λ r w'=>WPost base b l tabs w (if 0<=n/\n<=1 then some (if n=1 then [116,114,117,101] else [102,97,108,115,101]) else none) r w':=by
 rw[IsGE] at hx;obtain⟨x,p,y,sl,row,rfl,hr,ha⟩:=hx;obtain⟨ao,cap,rfl,hm⟩:=hr.slice;obtain⟨res,a0⟩:∃res:Option (List UInt8),Aside (res=if 0<=n/\n<=1 then some (if n=1 then [116,114,117,101] else [102,97,108,115,101]) else none):=⟨_,show _=_ from rfl⟩;rw[<-a0.out];clear ha hr hm;have hE:=AZ hW (geBox 2 o n t x y (.slice ao 0 cap) p);have hA:=Cj 2 o n t x y ao 0 cap p;rw[show nArgs 2 0=0 from rfl] at hA;clear hW;refine A8 func156 rfl ?_;simp only[ntmps156,size_toArray,length_cons,length_nil,Nat.reduceAdd,Nat.reduceSub,Array.replicate_succ,Array.replicate_zero,push_toArray,append_toArray,nil_append,cons_append]
 go_upto_region 1 with fail
 generalize ((w.alloc (Am b)).alloc (xBox (geBox 2 o n t x y (.slice ao 0 cap) p)))=w2 at *;generalize w.heap.size=g0 at *
 go_cut [] from 6 to 12 (λ wc=>In base b (eks b g0 (geBox 2 o n t x y (.slice ao 0 cap) p)) l tabs w wc)
 case first=>
  have l0:g0<w2:=hE.lt (q:=(g0,Am b)) (by simp);have l1:g0+1<w2:=hE.lt (q:=(g0+1,xBox _)) (by simp;rfl);obtain⟨x0,x1,x2,x3,x4,x5,x6,x7,_⟩:=Ab (hE.kept _ (AC))
  go_region_with (first
   |(go_at_call 178;refine (hA _).mono ?_;rintro e w3 ⟨rfl,ae⟩;have a7:=hE.drew.call ae;have l3:g0+1<w3:=a7.lt (q:=(g0+1,xBox _)) (by simp;rfl);obtain⟨y0,y1,y2,y3,y4,y5,y6,y7,_⟩:=Ab (a7.kept _ (AC)))
   |(go_at_call 89;refine (need_ok _).mono ?_;rintro e w4 ⟨rfl,rfl⟩))
  all_goals (go_wp2_with fail;go_meet;exact a7)
 case rest=>
  clear hE hA;have hE:=hcut;have l0:g0<wc:=hE.lt (q:=(g0,Am b)) (by simp);have l1:g0+1<wc:=hE.lt (q:=(g0+1,xBox _)) (by simp;rfl);have c0:=cell_of_one (hE.kept (g0,Am b) (by simp));obtain⟨x0,x1,x2,x3,x4,x5,x6,x7,_⟩:=Ab (hE.kept _ (AC));have hL:=Dd 2 o n (by decide) t x y ao 0 cap p wc;rw[if_neg (by decide)] at hL;have ad:¬(6:Int)<(a3:Int):=by omega
  go_wp2_with fail
  refine hL.mono ?_;rintro e w4 ⟨rfl,a8⟩;have a5:=hE.call a8;clear l0 l1 c0 x0 x1 x2 x3 x4 x5 x6 x7 hL hE hcut a8;have l0:g0<w4:=a5.lt (q:=(g0,Am b)) (by simp);have l1:g0+1<w4:=a5.lt (q:=(g0+1,xBox _)) (by simp;rfl);have c0:=cell_of_one (a5.kept (g0,Am b) (by simp));obtain⟨x0,x1,x2,x3,x4,x5,x6,x7,_⟩:=Ab (a5.kept _ (AC));have hN:AA 180 #[iv n] w4.drew λ e w'=>Ju w4.drew res e w':=by
   rw[a0.out];exact Xy n w4.drew
  go_upto_region 10 with fail
  rcases hq:res with _ | z
  .rw[hq] at hN;clear a0
   go_region_with (go_at_call 180;refine hN.mono ?_;rintro e w5 ⟨rfl,a6⟩;have a4:=a5.drew.call a6;refine skip_way w5 (λ _=>leaveP (show WPost base b l tabs w res _ _ by rw[hq];exact⟨rfl,l,tabs,a4.wr,a4.fw⟩)) ?_)
   all_goals trivial
  .rw[hq] at hN;have ab:z.length<=1099511627776:=by
    have:=a0.out;rw[hq] at this;split at this
    .simp only[Option.some.injEq] at this;subst this;split <;> simp
    .cases this
   clear a0
   go_region_with (first
    |(go_at_call 180;refine hN.mono ?_;rintro e w5 ⟨rfl,a6⟩;have a4:=a5.drew.call a6;have l5:g0<w5:=a4.lt (q:=(g0,Am b)) (by simp);have c5:=cell_of_one (a4.kept (g0,Am b) (by simp)))
    |(go_at_call 60;refine (put_l a4.wr z ab).mono ?_;rintro e w6 ⟨rfl,l6,aa,h6,a9⟩))
   all_goals
    go_wp2;exact leave0 rfl (show WPost base b l tabs w res _ _ by rw[hq];exact⟨rfl,l6,aa,h6,a4.fw.trans a9⟩)
theorem Ac8{base:Nat}{o n:Int}{t:AQ}{a3:Nat}{l:AQ}{tabs:Nat}(hW:Wr base b l tabs w)(hx:IsGE (λ k=>k<base) w (.mk 1 o n t []) cs)(af:a3<=6)(h1:n<=9223372036854775807) :
  AA 156 #[Bg b,.agg cs.toArray,iv a3] w λ r w'=>WPost base b l tabs w (if 0<=n then some (dg n.toNat) else none) r w':=by
 rw[IsGE] at hx;obtain⟨x,p,y,sl,row,rfl,hr,ha⟩:=hx;obtain⟨ao,cap,rfl,hm⟩:=hr.slice;obtain⟨res,a0⟩:∃res:Option (List UInt8),Aside (res=if 0<=n then some (dg n.toNat) else none):=⟨_,show _=_ from rfl⟩;rw[<-a0.out];clear ha hr hm;have hE:=AZ hW (geBox 1 o n t x y (.slice ao 0 cap) p);have hA:=Cj 1 o n t x y ao 0 cap p;rw[show nArgs 1 0=0 from rfl] at hA;clear hW;refine A8 func156 rfl ?_;simp only[ntmps156,size_toArray,length_cons,length_nil,Nat.reduceAdd,Nat.reduceSub,Array.replicate_succ,Array.replicate_zero,push_toArray,append_toArray,nil_append,cons_append]
 go_upto_region 1 with fail
 generalize ((w.alloc (Am b)).alloc (xBox (geBox 1 o n t x y (.slice ao 0 cap) p)))=w2 at *;generalize w.heap.size=g0 at *
 go_cut [] from 6 to 12 (λ wc=>In base b (eks b g0 (geBox 1 o n t x y (.slice ao 0 cap) p)) l tabs w wc)
 case first=>
  have l0:g0<w2:=hE.lt (q:=(g0,Am b)) (by simp);have l1:g0+1<w2:=hE.lt (q:=(g0+1,xBox _)) (by simp;rfl);obtain⟨x0,x1,x2,x3,x4,x5,x6,x7,_⟩:=Ab (hE.kept _ (AC))
  go_region_with (first
   |(go_at_call 178;refine (hA _).mono ?_;rintro e w3 ⟨rfl,ae⟩;have a7:=hE.drew.call ae;have l3:g0+1<w3:=a7.lt (q:=(g0+1,xBox _)) (by simp;rfl);obtain⟨y0,y1,y2,y3,y4,y5,y6,y7,_⟩:=Ab (a7.kept _ (AC)))
   |(go_at_call 89;refine (need_ok _).mono ?_;rintro e w4 ⟨rfl,rfl⟩))
  all_goals (go_wp2_with fail;go_meet;exact a7)
 case rest=>
  clear hE hA;have hE:=hcut;have l0:g0<wc:=hE.lt (q:=(g0,Am b)) (by simp);have l1:g0+1<wc:=hE.lt (q:=(g0+1,xBox _)) (by simp;rfl);have c0:=cell_of_one (hE.kept (g0,Am b) (by simp));obtain⟨x0,x1,x2,x3,x4,x5,x6,x7,_⟩:=Ab (hE.kept _ (AC));have hL:=Dd 1 o n (by decide) t x y ao 0 cap p wc;rw[if_neg (by decide)] at hL;have ad:¬(6:Int)<(a3:Int):=by omega
  go_wp2_with fail
  refine hL.mono ?_;rintro e w4 ⟨rfl,a8⟩;have a5:=hE.call a8;clear l0 l1 c0 x0 x1 x2 x3 x4 x5 x6 x7 hL hE hcut a8;have l0:g0<w4:=a5.lt (q:=(g0,Am b)) (by simp);have l1:g0+1<w4:=a5.lt (q:=(g0+1,xBox _)) (by simp;rfl);have c0:=cell_of_one (a5.kept (g0,Am b) (by simp));obtain⟨x0,x1,x2,x3,x4,x5,x6,x7,_⟩:=Ab (a5.kept _ (AC));have hN:AA 61 #[iv n] w4.drew λ e w'=>Ju w4.drew res e w':=by
   rw[a0.out];exact Lc n w4.drew a5.drew.wr.tab h1
  go_upto_region 8 with fail
  rcases hq:res with _ | z
  .rw[hq] at hN;clear a0
   go_region_with (go_at_call 61;refine hN.mono ?_;rintro e w5 ⟨rfl,a6⟩;have a4:=a5.drew.call a6;refine skip_way w5 (λ _=>leaveP (show WPost base b l tabs w res _ _ by rw[hq];exact⟨rfl,l,tabs,a4.wr,a4.fw⟩)) ?_)
   all_goals trivial
  .rw[hq] at hN;have ab:z.length<=1099511627776:=by
    have:=a0.out;rw[hq] at this;split at this
    .simp only[Option.some.injEq] at this;subst this;have:=Ab3 n.toNat (by omega);omega
    .cases this
   clear a0
   go_region_with (first
    |(go_at_call 61;refine hN.mono ?_;rintro e w5 ⟨rfl,a6⟩;have a4:=a5.drew.call a6;have l5:g0<w5:=a4.lt (q:=(g0,Am b)) (by simp);have c5:=cell_of_one (a4.kept (g0,Am b) (by simp)))
    |(go_at_call 60;refine (put_l a4.wr z ab).mono ?_;rintro e w6 ⟨rfl,l6,aa,h6,a9⟩))
   all_goals
    go_wp2;exact leave0 rfl (show WPost base b l tabs w res _ _ by rw[hq];exact⟨rfl,l6,aa,h6,a4.fw.trans a9⟩)
end
section
open Go.RowKit
theorem Ac1{base:Nat}  {n:AQ} {a:GE} {bo el:List GS} {l:AQ} {tabs:Nat}   (hW:Wr base b l tabs w) (hx:IsGS (λ k=>k<base) w (.mk 4 n [a] bo el) cs) (au:De base b a) (hB:Lf base b bo) (hd:tabs+1+Eg bo<=1099511627776) (aq:¬(0:Int)<(el.length:Int)) :
  AA 128 #[Bg b,.agg cs.toArray] w λ r w'=>WPost base b l tabs w (((gE a).bind λ x=>(gBlk (gSts bo (indT tabs)) (indT tabs) bo.isEmpty).map λ y=>x ++ ([32] ++ y)).map λ z=>[105,102,32] ++ z) r w':=by
 obtain⟨res,a4⟩:∃res:Option (List UInt8),Aside (res=((gE a).bind λ x=>(gBlk (gSts bo (indT tabs)) (indT tabs) bo.isEmpty).map λ y=>x ++ ([32] ++ y)).map λ z=>[105,102,32] ++ z):=⟨_,show _=_ from rfl⟩;rw[<-a4.out];rw[IsGS] at hx;obtain⟨x,y,p,f,s1,s2,s3,r1,r2,r3,rfl,a9,ag,a8,al,ab,ah⟩:=hx;obtain⟨a1,q1,rfl,ay⟩:=a9.slice;obtain⟨a2,q2,rfl,ar⟩:=a8.slice;obtain⟨a3,q3,rfl,ax⟩:=ab.slice;have aw:∀w',FW base b w w'->Bz (λ k=>k<base) w' bo (.slice a2 bo.length q2):=λ w' hF=>⟨r2,a8.since hF.since,al.since hF.since⟩
 have b0:∀w',FW base b w w'->Bz (λ k=>k<base) w' el (.slice a3 el.length q3):=λ w' hF=>⟨r3,ab.since hF.since,ah.since hF.since⟩
 have af:=λ (q:Nat) (e:GE) (w':World) (hq:([a]:List GE)[q]?=some e) (hF:FW base b w w')=>C1 a9 ag hF hq
 obtain⟨g,o',u0,u1,u2,u3,u4,u5,u6,u7,rfl,hg,⟨e0,e1,e2,e3,e4,e5,e6,e7⟩,ad⟩:=af 0 a w rfl (AW _ _ _);obtain⟨k1,o1,n1,t1,ae,aa,b1,m1,c1,p1,ak⟩:=ad.shows;simp only[List.cons.injEq,and_true] at ak;obtain⟨rfl,rfl,rfl,rfl,rfl,rfl,rfl,rfl⟩:=ak;simp only[Nat.zero_mul,Nat.add_zero] at e0 e1 e2 e3 e4 e5 e6 e7;have hE:=In.sboxes hW (gsBox 4 n x f y (sL g o' 1 q1) (.slice a2 bo.length q2) (.slice a3 el.length q3) p) #[iv k1,iv o1,iv n1,.string t1,iv ae,.string aa,.slice b1 m1 c1,iv p1];have az:∀w',FW base b w w'->IsGE (λ k=>k<base) w' a [iv k1,iv o1,iv n1,.string t1,iv ae,.string aa,.slice b1 m1 c1,iv p1]:=λ w' hF=>ad.since hF.since
 clear a9 ag a8 al ab ah ay ar hW ad;unfold maxLen at ax;go_enter func128,ntmps128;go_wp2_with fail;refine (need_ok _).mono ?_;rintro e w1 ⟨rfl,rfl⟩;go_wp2_with fail;generalize ((w.alloc (sBox (gsBox 4 n x f y (sL g o' 1 q1) (.slice a2 bo.length q2) (.slice a3 el.length q3) p))).alloc (xBox #[iv k1,iv o1,iv n1,.string t1,iv ae,.string aa,.slice b1 m1 c1,iv p1]))=w2 at *;generalize w.heap.size=g0 at *;have l0:g0<w2:=hE.lt (AH _ (AC));have l1:g0+1<w2:=hE.lt (AC);obtain⟨x0,x1,x2,x3,x4,x5,x6,x7,_⟩:=Ab (hE.kept _ (AC));obtain⟨z0,z1,z2,z3,z4,z5,z6,z7,z8,_⟩:=Ae (hE.kept _ (AH _ (AC)));refine (put_l hE.wr [105,102,32] (by simp)).mono ?_;rintro e w3 ⟨rfl,l3,av,h3,ai⟩;have a0:=hE.step h3 ai;clear l0 l1 x0 x1 x2 x3 x4 x5 x6 x7 z0 z1 z2 z3 z4 z5 z6 z7 z8 ai;have l0:g0<w3:=a0.lt (AH _ (AC));have l1:g0+1<w3:=a0.lt (AC);obtain⟨x0,x1,x2,x3,x4,x5,x6,x7,_⟩:=Ab (a0.kept _ (AC));obtain⟨z0,z1,z2,z3,z4,z5,z6,z7,z8,_⟩:=Ae (a0.kept _ (AH _ (AC)));have aj:=Hr au hB hd a0.wr (az w3 a0.fw) (aw w3 a0.fw);go_wp2_with fail;refine aj.mono ?_;rcases hq0:((gE a).bind λ x=>(gBlk (gSts bo (indT tabs)) (indT tabs) bo.isEmpty).map λ y=>x ++ ([32] ++ y)) with _ | z
 .rintro e w4 ⟨rfl,l4,a6,h4,a7⟩;refine⟨rfl,?_⟩;rw[a4.out,hq0];exact⟨rfl,l4,a6,h4,a0.fw.trans a7⟩
 rintro e w4 ⟨rfl,l4,am,h4,a7⟩;have a5:=a0.step h4 a7;clear l0 l1 x0 x1 x2 x3 x4 x5 x6 x7 z0 z1 z2 z3 z4 z5 z6 z7 z8 aj a7;have l0:g0<w4:=a5.lt (AH _ (AC));have l1:g0+1<w4:=a5.lt (AC);obtain⟨x0,x1,x2,x3,x4,x5,x6,x7,_⟩:=Ab (a5.kept _ (AC));obtain⟨z0,z1,z2,z3,z4,z5,z6,z7,z8,_⟩:=Ae (a5.kept _ (AH _ (AC)));go_wp2
 go_end0
 rw[a4.out,hq0];exact⟨rfl,l4,by simpa using av.trans am,h4,a5.fw⟩
theorem Ac2{base:Nat}  {n:AQ} {a:GE} {bo el:List GS} {l:AQ} {tabs:Nat}   (hW:Wr base b l tabs w) (hx:IsGS (λ k=>k<base) w (.mk 4 n [a] bo el) cs) (az:De base b a) (hB:Lf base b bo) (hd:tabs+1+Eg bo<=1099511627776) (b0:Lf base b el) (b4:tabs+1+Eg el<=1099511627776) (ax:(0:Int)<(el.length:Int)) :
  AA 128 #[Bg b,.agg cs.toArray] w λ r w'=>WPost base b l tabs w (((gE a).bind λ x=>(gBlk (gSts bo (indT tabs)) (indT tabs) bo.isEmpty).map λ y=>x ++ ([32] ++ y)).bind λ z=>(gBlk (gSts el (indT tabs)) (indT tabs) el.isEmpty).map λ u=>[105,102,32] ++ (z ++ ([32,101,108,115,101,32] ++ u))) r w':=by
 obtain⟨res,a4⟩:∃res:Option (List UInt8),Aside (res=((gE a).bind λ x=>(gBlk (gSts bo (indT tabs)) (indT tabs) bo.isEmpty).map λ y=>x ++ ([32] ++ y)).bind λ z=>(gBlk (gSts el (indT tabs)) (indT tabs) el.isEmpty).map λ u=>[105,102,32] ++ (z ++ ([32,101,108,115,101,32] ++ u))):=⟨_,show _=_ from rfl⟩;rw[<-a4.out];rw[IsGS] at hx;obtain⟨x,y,p,f,s1,s2,s3,r1,r2,r3,rfl,ad,aj,aa,au,af,ak⟩:=hx;obtain⟨a1,q1,rfl,b9⟩:=ad.slice;obtain⟨a2,q2,rfl,ay⟩:=aa.slice;obtain⟨a3,q3,rfl,b8⟩:=af.slice;have b6:∀w',FW base b w w'->Bz (λ k=>k<base) w' bo (.slice a2 bo.length q2):=λ w' hF=>⟨r2,aa.since hF.since,au.since hF.since⟩
 have b7:∀w',FW base b w w'->Bz (λ k=>k<base) w' el (.slice a3 el.length q3):=λ w' hF=>⟨r3,af.since hF.since,ak.since hF.since⟩
 have ai:=λ (q:Nat) (e:GE) (w':World) (hq:([a]:List GE)[q]?=some e) (hF:FW base b w w')=>C1 ad aj hF hq
 obtain⟨g,o',u0,u1,u2,u3,u4,u5,u6,u7,rfl,hg,⟨e0,e1,e2,e3,e4,e5,e6,e7⟩,ag⟩:=ai 0 a w rfl (AW _ _ _);obtain⟨k1,o1,n1,t1,ah,ae,b1,m1,c1,p1,ar⟩:=ag.shows;simp only[List.cons.injEq,and_true] at ar;obtain⟨rfl,rfl,rfl,rfl,rfl,rfl,rfl,rfl⟩:=ar;simp only[Nat.zero_mul,Nat.add_zero] at e0 e1 e2 e3 e4 e5 e6 e7;have hE:=In.sboxes hW (gsBox 4 n x f y (sL g o' 1 q1) (.slice a2 bo.length q2) (.slice a3 el.length q3) p) #[iv k1,iv o1,iv n1,.string t1,iv ah,.string ae,.slice b1 m1 c1,iv p1];have ba:∀w',FW base b w w'->IsGE (λ k=>k<base) w' a [iv k1,iv o1,iv n1,.string t1,iv ah,.string ae,.slice b1 m1 c1,iv p1]:=λ w' hF=>ag.since hF.since
 clear ad aj aa au af ak b9 ay hW ag;unfold maxLen at b8;go_enter func128,ntmps128;go_wp2_with fail;refine (need_ok _).mono ?_;rintro e w1 ⟨rfl,rfl⟩;go_wp2_with fail;generalize ((w.alloc (sBox (gsBox 4 n x f y (sL g o' 1 q1) (.slice a2 bo.length q2) (.slice a3 el.length q3) p))).alloc (xBox #[iv k1,iv o1,iv n1,.string t1,iv ah,.string ae,.slice b1 m1 c1,iv p1]))=w2 at *;generalize w.heap.size=g0 at *;have l0:g0<w2:=hE.lt (AH _ (AC));have l1:g0+1<w2:=hE.lt (AC);obtain⟨x0,x1,x2,x3,x4,x5,x6,x7,_⟩:=Ab (hE.kept _ (AC));obtain⟨z0,z1,z2,z3,z4,z5,z6,z7,z8,_⟩:=Ae (hE.kept _ (AH _ (AC)));refine (put_l hE.wr [105,102,32] (by simp)).mono ?_;rintro e w3 ⟨rfl,l3,b5,h3,al⟩;have a0:=hE.step h3 al;clear l0 l1 x0 x1 x2 x3 x4 x5 x6 x7 z0 z1 z2 z3 z4 z5 z6 z7 z8 al;have l0:g0<w3:=a0.lt (AH _ (AC));have l1:g0+1<w3:=a0.lt (AC);obtain⟨x0,x1,x2,x3,x4,x5,x6,x7,_⟩:=Ab (a0.kept _ (AC));obtain⟨z0,z1,z2,z3,z4,z5,z6,z7,z8,_⟩:=Ae (a0.kept _ (AH _ (AC)));have am:=Hr az hB hd a0.wr (ba w3 a0.fw) (b6 w3 a0.fw);go_wp2_with fail;refine am.mono ?_;rcases hq0:((gE a).bind λ x=>(gBlk (gSts bo (indT tabs)) (indT tabs) bo.isEmpty).map λ y=>x ++ ([32] ++ y)) with _ | z
 .rintro e w4 ⟨rfl,l4,a8,h4,a9⟩;refine⟨rfl,?_⟩;rw[a4.out,hq0];exact⟨rfl,l4,a8,h4,a0.fw.trans a9⟩
 rintro e w4 ⟨rfl,l4,av,h4,a9⟩;have a6:=a0.step h4 a9;clear l0 l1 x0 x1 x2 x3 x4 x5 x6 x7 z0 z1 z2 z3 z4 z5 z6 z7 z8 am a9;have l0:g0<w4:=a6.lt (AH _ (AC));have l1:g0+1<w4:=a6.lt (AC);obtain⟨x0,x1,x2,x3,x4,x5,x6,x7,_⟩:=Ab (a6.kept _ (AC));obtain⟨z0,z1,z2,z3,z4,z5,z6,z7,z8,_⟩:=Ae (a6.kept _ (AH _ (AC)));go_wp2_with fail;refine (put_l a6.wr [32,101,108,115,101,32] (by simp)).mono ?_;rintro e w5 ⟨rfl,l5,b3,h5,aq⟩;have a5:=a6.step h5 aq;clear l0 l1 x0 x1 x2 x3 x4 x5 x6 x7 z0 z1 z2 z3 z4 z5 z6 z7 z8 aq;have l0:g0<w5:=a5.lt (AH _ (AC));have l1:g0+1<w5:=a5.lt (AC);obtain⟨x0,x1,x2,x3,x4,x5,x6,x7,_⟩:=Ab (a5.kept _ (AC));obtain⟨z0,z1,z2,z3,z4,z5,z6,z7,z8,_⟩:=Ae (a5.kept _ (AH _ (AC)));have hC:=b0 l5 tabs _ w5 b4 h5 (b7 w5 a5.fw);go_wp2_with fail;refine hC.mono ?_;rcases hq:(gBlk (gSts el (indT tabs)) (indT tabs) el.isEmpty) with _ | u
 .rintro e w9 ⟨rfl,l9,a7,h9,ab⟩;refine⟨rfl,?_⟩;rw[a4.out,hq0,Option.bind_some,hq];exact⟨rfl,l9,a7,h9,a5.fw.trans ab⟩
 .rintro e w9 ⟨rfl,l9,aw,h9,ab⟩;go_wp2
  go_end0
  rw[a4.out,hq0,Option.bind_some,hq];exact⟨rfl,l9,by simpa using ((b5.trans av).trans b3).trans aw,h9,a5.fw.trans ab⟩
end
section
open Go.RowKit
open Px (opL opX dg lv)
theorem Bc2(k o n:Int)(t:AQ):gE (.mk k o n t [])=gKS k o n t [] []:=by rw[gE];simp only[gEs]
theorem Az3(k o n:Int)(t:AQ)(a:GE):gE (.mk k o n t [a])=(gE a).bind λ x=>gKS k o n t [a] [x]:=by
 rw[gE];simp only[gEs];rcases gE a with _ | x <;> rfl
theorem Au8(k o n:Int)(t:AQ)(a c:GE):gE (.mk k o n t [a,c])=(gE a).bind λ x=>(gE c).bind λ y=>gKS k o n t [a,c] [x,y]:=by
 rw[gE];simp only[gEs];rcases gE a with _ | x <;> rcases gE c with _ | y <;> rfl
theorem Rv:∀{l:List (Option (List UInt8))} {xs:List (List UInt8)},allS l=some xs->xs.length=l.length
 | [],xs,h=>by simp[allS] at h;subst h;rfl
 | x :: r,xs,h=>by
  simp only[allS,Option.bind_eq_some_iff,Option.map_eq_some_iff] at h;obtain⟨y,rfl,ys,hy,rfl⟩:=h;simp[Rv hy]
theorem Ye{k o n:Int}{t:AQ}{args:List GE}{xs:List (List UInt8)}(hc:xs.length≠nArgs k xs.length):gKS k o n t args xs=none:=by
 unfold gKS;unfold nArgs at hc;by_cases h1:k=1
 .subst h1;have hc:xs.length≠0:=by simpa using hc
  rw[if_pos rfl,if_neg (λ h=>hc h.1)]
 rw[if_neg h1];by_cases h2:k=2
 .subst h2;have hc:xs.length≠0:=by simpa using hc
  rw[if_pos rfl,if_neg (λ h=>hc h.1)]
 rw[if_neg h2];by_cases h3:k=3
 .subst h3;have hc:xs.length≠0:=by simpa using hc
  rw[if_pos rfl,if_neg (λ h=>hc h.1)]
 rw[if_neg h3];by_cases h6:k=6
 .subst h6;have hc:xs.length≠0:=by simpa using hc
  rw[if_pos rfl,if_neg (λ h=>hc h.1)]
 rw[if_neg h6];by_cases h7:k=7
 .subst h7;simp at hc
 rw[if_neg h7];rw[if_neg h7] at hc;by_cases h12:k=12
 .subst h12;rw[if_pos (Or.inl rfl)] at hc;rw[if_pos rfl,if_neg hc]
 rw[if_neg h12];by_cases h13:k=13
 .subst h13;rw[if_neg (by omega),if_pos (Or.inl rfl)] at hc;rw[if_pos rfl,if_neg hc]
 rw[if_neg h13];by_cases h14:k=14
 .subst h14;rw[if_neg (by omega),if_pos (Or.inr rfl)] at hc;rw[if_pos rfl,if_neg hc]
 rw[if_neg h14];by_cases h15:k=15
 .subst h15;rw[if_pos (Or.inr rfl)] at hc;rw[if_pos rfl,if_neg (λ h=>hc h.1)]
 rw[if_neg h15]
theorem Ac9{k o n:Int}{t:AQ}{args:List GE}(hc:args.length≠nArgs k args.length):gE (.mk k o n t args)=none:=by
 rw[gE,Pk];rcases h:allS (args.map gE) with _ | xs
 .rfl
 .have hl:=Rv h;rw[length_map] at hl;rw[<-hl] at hc;exact Ye hc
theorem Uc{k o n:Int}{t:AQ}{args:List GE}(a3:k≠15)(a0:k≠13)(a4:k≠14)(j:Nat):Bn j (.mk k o n t args)=false:=by
 simp[Bn,GE.k,GE.o,a3,a0,a4]
theorem Pl(r:Option (List UInt8)):r.map (withinS false)=r:=by cases r <;> simp[withinS]
theorem Ud{base:Nat}{k o n:Int}{t:AQ}{args:List GE}(h1:n<=9223372036854775807)(h2:t.length<=maxLen)(hs:∀e∈args,De base b e):De base b (.mk k o n t args):=by
 intro least l tabs cs w hle hW hx;by_cases hc':args.length≠nArgs k args.length
 .rw[Ac9 hc'];exact T7 hW hx hc'
 have hc:args.length=nArgs k args.length:=by omega
 by_cases k7:k=7
 .subst k7;rw[Uc (by decide) (by decide) (by decide),Pl];have:=X7 hW hx h2 hs hle;have e:gE (.mk 7 o n t args)=if gName t then (allS (args.map gE)).map λ xs=>t ++ 40 :: (commasS xs ++ [41]) else none:=by
   rw[gE,Pk];rcases allS (args.map gE) with _ | xs
   .cases gName t <;> rfl
   .simp[gKS]
  rw[e];exact this
 by_cases k12:k=12
 .subst k12;rw[Uc (by decide) (by decide) (by decide),Pl];have hl:args.length=2:=by rw[hc];rfl
  match args,hl,hs,hx with
  | [a,c],_,hs,hx=>
   have:=An3 hW hx (hs a (by simp)) (hs c (by simp)) hle;have e:gE (.mk 12 o n t [a,c])=(gE a).bind λ x=>(gE c).map λ y=>withinS (Bn 7 a) x ++ 91 :: (y ++ [93]):=by
    rw[Au8];rcases gE a with _ | x <;> rcases gE c with _ | y <;> simp[gKS]
   rw[e];exact this
 by_cases k13:k=13
 .subst k13;have hl:args.length=1:=by rw[hc];rfl
  match args,hl,hs,hx with
  | [a],_,hs,hx=>
   have:=X8 hW hx (hs a (by simp)) hle;have e:(gE (.mk 13 o n t [a])).map (withinS (Bn (least+1) (.mk 13 o n t [a])))=(gE a).map λ x=>withinS (Bn (least+1) (.mk 13 o n t [a])) (45 :: withinS (Bn 6 a) x):=by
    rw[Az3];rcases gE a with _ | x <;> simp[gKS]
   rw[e];exact this
 by_cases k14:k=14
 .subst k14;have hl:args.length=1:=by rw[hc];rfl
  match args,hl,hs,hx with
  | [a],_,hs,hx=>
   have:=X9 hW hx (hs a (by simp)) hle;have e:(gE (.mk 14 o n t [a])).map (withinS (Bn (least+1) (.mk 14 o n t [a])))=(gE a).map λ x=>withinS (Bn (least+1) (.mk 14 o n t [a])) (33 :: withinS (Bn 6 a) x):=by
    rw[Az3];rcases gE a with _ | x <;> simp[gKS]
   rw[e];exact this
 by_cases k15:k=15
 .subst k15;have hl:args.length=2:=by rw[hc];rfl
  match args,hl,hs,hx with
  | [a,c],_,hs,hx=>
   by_cases hop:gL o=0
   .have e:gE (.mk 15 o n t [a,c])=none:=by
     rw[Au8];rcases gE a with _ | x <;> rcases gE c with _ | y <;> simp[gKS,hop]
    rw[e];exact Yb hW hx hop hle
   .obtain⟨m,rfl,m1,m2⟩:=Ab4 hop;have:=Ac7 hW hx m1 m2 (hs a (by simp)) (hs c (by simp)) hle;have e:gE (.mk 15 m n t [a,c])=bnT m a c:=by
     rw[Au8,bnT];rw[gL_nat] at hop;rcases gE a with _ | x <;> rcases gE c with _ | y <;> simp[gKS,gL_nat,hop]
    rw[e];exact this
 rw[Uc k15 k13 k14,Pl];have hl:args.length=0:=by rw[hc];unfold nArgs;rw[if_neg k7,if_neg (by omega),if_neg (by omega)]
 match args,hl,hx with
 | [],_,hx=>
  rw[Bc2];by_cases k1:k=1
  .subst k1;have:=Ac8 hW hx hle h1;rw[show gKS 1 o n t [] []=if 0<=n then some (dg n.toNat) else none by simp[gKS]];exact this
  by_cases k2:k=2
  .subst k2;have:=Yc hW hx hle;rw[show gKS 2 o n t [] []=if 0<=n/\n<=1 then some (if n=1 then [116,114,117,101] else [102,97,108,115,101]) else none by simp[gKS]];exact this
  by_cases k3:k=3
  .subst k3;have:=Yd hW hx hle h2;rw[show gKS 3 o n t [] []=if plainB t then some (Fi t) else none by simp[gKS]];exact this
  by_cases k6:k=6
  .subst k6;have:=X6 hW hx hle h2;rw[show gKS 6 o n t [] []=if gName t then some t else none by simp[gKS]];exact this
  have:=Ya hW hx ⟨k1,k2,k3,k6,k7,k12,k13,k14,k15⟩ hle;rw[show gKS k o n t [] []=none by simp[gKS,k1,k2,k3,k6,k7,k12,k13,k14,k15]];exact this
mutual
theorem Bc3{base b:Nat}:∀e:GE,OkE e->De base b e
 | .mk k o n t args,h=>by
  rw[OkE] at h;exact Ud h.1 h.2.1 (Ad0 args h.2.2)
theorem Ad0{base b:Nat}:∀l:List GE,OkEs l->∀e∈l,De base b e
 | [],_,e,he=>by simp at he
 | a :: r,h,e,he=>by
  rw[OkEs] at h;have ha:=Bc3 (base:=base) (b:=b) a h.1;have hr:=Ad0 (base:=base) (b:=b) r h.2;rcases mem_cons.1 he with rfl | he
  .exact ha
  .exact hr e he
end
end
section
open Go.RowKit
theorem X4{base:Nat}  {n:AQ} {a c:GE} {bo el:List GS} {l:AQ} {tabs:Nat}   (hW:Wr base b l tabs w) (hx:IsGS (λ k=>k<base) w (.mk 2 n [a,c] bo el) cs) (b3:n.length<=maxLen) (b9:De base b a) (bf:De base b c) :
  AA 128 #[Bg b,.agg cs.toArray] w λ r w'=>WPost base b l tabs w (if gName n then (gE a).bind λ x=>(gE c).map λ y=>[115,101,116,32] ++ (n ++ ([91] ++ (x ++ ([93,32,61,32] ++ (y ++ [59]))))) else none) r w':=by
 obtain⟨res,a0⟩:∃res:Option (List UInt8),Aside (res=if gName n then (gE a).bind λ x=>(gE c).map λ y=>[115,101,116,32] ++ (n ++ ([91] ++ (x ++ ([93,32,61,32] ++ (y ++ [59]))))) else none):=⟨_,show _=_ from rfl⟩;rw[<-a0.out];rw[IsGS] at hx;obtain⟨x,y,p,f,s1,s2,s3,r1,r2,r3,rfl,ag,aj,ae,b4,ah,aq⟩:=hx;obtain⟨a1,q1,rfl,bc⟩:=ag.slice;obtain⟨a2,q2,rfl,b8⟩:=ae.slice;obtain⟨a3,q3,rfl,bb⟩:=ah.slice;have bj:∀w',FW base b w w'->Bz (λ k=>k<base) w' bo (.slice a2 bo.length q2):=λ w' hF=>⟨r2,ae.since hF.since,b4.since hF.since⟩
 have bl:∀w',FW base b w w'->Bz (λ k=>k<base) w' el (.slice a3 el.length q3):=λ w' hF=>⟨r3,ah.since hF.since,aq.since hF.since⟩
 have a8:=λ (q:Nat) (e:GE) (w':World) (hq:([a,c]:List GE)[q]?=some e) (hF:FW base b w w')=>C1 ag aj hF hq
 obtain⟨g,o',u0,u1,u2,u3,u4,u5,u6,u7,rfl,hg,⟨e0,e1,e2,e3,e4,e5,e6,e7⟩,ai⟩:=a8 1 c w rfl (AW _ _ _);obtain⟨k1,o1,n1,t1,ad,aa,b1,m1,c1,p1,av⟩:=ai.shows;simp only[List.cons.injEq,and_true] at av;obtain⟨rfl,rfl,rfl,rfl,rfl,rfl,rfl,rfl⟩:=av;simp only[Nat.one_mul,Nat.add_assoc,Nat.reduceAdd] at e0 e1 e2 e3 e4 e5 e6 e7;have hE:=In.sboxes hW (gsBox 2 n x f y (sL g o' 2 q1) (.slice a2 bo.length q2) (.slice a3 el.length q3) p) #[iv k1,iv o1,iv n1,.string t1,iv ad,.string aa,.slice b1 m1 c1,iv p1];have bg:∀w',FW base b w w'->IsGE (λ k=>k<base) w' c [iv k1,iv o1,iv n1,.string t1,iv ad,.string aa,.slice b1 m1 c1,iv p1]:=λ w' hF=>ai.since hF.since
 clear ag aj ae b4 ah aq bc b8 hW ai;unfold maxLen at bb;go_enter func128,ntmps128;go_wp2_with fail;refine (need_ok _).mono ?_;rintro e w1 ⟨rfl,rfl⟩;have hN:=Dc n;rcases hgn:gName n with _ | _
 .rw[hgn] at hN;go_wp2_with fail;generalize ((w.alloc (sBox (gsBox 2 n x f y (sL g o' 2 q1) (.slice a2 bo.length q2) (.slice a3 el.length q3) p))).alloc (xBox #[iv k1,iv o1,iv n1,.string t1,iv ad,.string aa,.slice b1 m1 c1,iv p1]))=w2 at *;generalize w.heap.size=g0 at *;have l0:g0<w2:=hE.lt (AH _ (AC));have l1:g0+1<w2:=hE.lt (AC);obtain⟨x0,x1,x2,x3,x4,x5,x6,x7,_⟩:=Ab (hE.kept _ (AC));obtain⟨z0,z1,z2,z3,z4,z5,z6,z7,z8,_⟩:=Ae (hE.kept _ (AH _ (AC)));refine (hN _ b3).mono ?_;rintro e w3 ⟨rfl,rfl⟩;refine⟨rfl,?_⟩;rw[a0.out,hgn];exact⟨rfl,l,tabs,hE.wr,hE.fw⟩
 have bk:=Co hgn;rw[hgn] at hN;go_wp2_with fail;generalize ((w.alloc (sBox (gsBox 2 n x f y (sL g o' 2 q1) (.slice a2 bo.length q2) (.slice a3 el.length q3) p))).alloc (xBox #[iv k1,iv o1,iv n1,.string t1,iv ad,.string aa,.slice b1 m1 c1,iv p1]))=w2 at *;generalize w.heap.size=g0 at *;have l0:g0<w2:=hE.lt (AH _ (AC));have l1:g0+1<w2:=hE.lt (AC);obtain⟨x0,x1,x2,x3,x4,x5,x6,x7,_⟩:=Ab (hE.kept _ (AC));obtain⟨z0,z1,z2,z3,z4,z5,z6,z7,z8,_⟩:=Ae (hE.kept _ (AH _ (AC)));refine (hN _ b3).mono ?_;rintro e w2' ⟨rfl,rfl⟩;go_wp2_with fail;rw[Rt];refine (put_l hE.wr ([115,101,116,32] ++ n) (by simp;omega)).mono ?_;rintro e w3 ⟨rfl,l3,ba,h3,ar⟩;have a4:=hE.step h3 ar;clear l0 l1 x0 x1 x2 x3 x4 x5 x6 x7 z0 z1 z2 z3 z4 z5 z6 z7 z8 hN ar;have l0:g0<w3:=a4.lt (AH _ (AC));have l1:g0+1<w3:=a4.lt (AC);obtain⟨x0,x1,x2,x3,x4,x5,x6,x7,_⟩:=Ab (a4.kept _ (AC));obtain⟨z0,z1,z2,z3,z4,z5,z6,z7,z8,_⟩:=Ae (a4.kept _ (AH _ (AC)));obtain⟨g',bh,u0,u1,u2,u3,u4,u5,u6,u7,b0,bi,⟨ax,b5,ak,am,al,aw,ay,az⟩,a7⟩:=a8 0 a w3 rfl a4.fw;simp only[Option.some.injEq,Addr.mk.injEq,and_true] at b0;obtain⟨rfl,rfl⟩:=b0;simp only[Nat.zero_mul,Nat.add_zero] at ax b5 ak am al aw ay az;have au:=I9 b9 a4.wr a7;clear a7 e0 e1 e2 e3 e4 e5 e6 e7
 go_wp2_with fail
 refine au.mono ?_;rcases hq0:gE a with _ | x'
 .rintro e w4 ⟨rfl,l4,a9,h4,ab⟩;refine⟨rfl,?_⟩;rw[a0.out,hgn,if_pos rfl,hq0];exact⟨rfl,l4,a9,h4,a4.fw.trans ab⟩
 rintro e w4 ⟨rfl,l4,b6,h4,ab⟩;have a5:=a4.step h4 ab;clear l0 l1 x0 x1 x2 x3 x4 x5 x6 x7 z0 z1 z2 z3 z4 z5 z6 z7 z8 au ab ax b5 ak am al aw ay az;have l0:g0<w4:=a5.lt (AH _ (AC));have l1:g0+1<w4:=a5.lt (AC);obtain⟨x0,x1,x2,x3,x4,x5,x6,x7,_⟩:=Ab (a5.kept _ (AC));obtain⟨z0,z1,z2,z3,z4,z5,z6,z7,z8,_⟩:=Ae (a5.kept _ (AH _ (AC)));have hC:=Ja bf a5.wr (bg w4 a5.fw);go_wp2_with fail;refine hC.mono ?_;rcases hq:gE c with _ | x
 .rintro e w9 ⟨rfl,l9,a6,h9,af⟩;refine⟨rfl,?_⟩;rw[a0.out,hgn,if_pos rfl,hq0,hq];exact⟨rfl,l9,a6,h9,a5.fw.trans af⟩
 .rintro e w9 ⟨rfl,l9,b7,h9,af⟩;go_wp2
  go_end0
  rw[a0.out,hgn,if_pos rfl,hq0,hq];exact⟨rfl,l9,by simpa using (ba.trans b6).trans b7,h9,a5.fw.trans af⟩
theorem Ac0{base:Nat}  {n:AQ} {a:GE} {bo el:List GS} {l:AQ} {tabs:Nat}   (hW:Wr base b l tabs w) (hx:IsGS (λ k=>k<base) w (.mk 3 n [a] bo el) cs) (al:n.length<=maxLen) (av:De base b a) :
  AA 128 #[Bg b,.agg cs.toArray] w λ r w'=>WPost base b l tabs w (if gName n then (gE a).map λ x=>[100,101,108,32] ++ (n ++ ([91] ++ (x ++ [93,59]))) else none) r w':=by
 obtain⟨res,a0⟩:∃res:Option (List UInt8),Aside (res=if gName n then (gE a).map λ x=>[100,101,108,32] ++ (n ++ ([91] ++ (x ++ [93,59]))) else none):=⟨_,show _=_ from rfl⟩;rw[<-a0.out];rw[IsGS] at hx;obtain⟨x,y,p,f,s1,s2,s3,r1,r2,r3,rfl,ab,ag,aa,am,ad,ah⟩:=hx;obtain⟨a1,q1,rfl,az⟩:=ab.slice;obtain⟨a2,q2,rfl,ar⟩:=aa.slice;obtain⟨a3,q3,rfl,ay⟩:=ad.slice;have b3:∀w',FW base b w w'->Bz (λ k=>k<base) w' bo (.slice a2 bo.length q2):=λ w' hF=>⟨r2,aa.since hF.since,am.since hF.since⟩
 have b5:∀w',FW base b w w'->Bz (λ k=>k<base) w' el (.slice a3 el.length q3):=λ w' hF=>⟨r3,ad.since hF.since,ah.since hF.since⟩
 have af:=λ (q:Nat) (e:GE) (w':World) (hq:([a]:List GE)[q]?=some e) (hF:FW base b w w')=>C1 ab ag hF hq
 obtain⟨g,o',u0,u1,u2,u3,u4,u5,u6,u7,rfl,hg,⟨e0,e1,e2,e3,e4,e5,e6,e7⟩,ae⟩:=af 0 a w rfl (AW _ _ _);obtain⟨k1,o1,n1,t1,a9,a7,b1,m1,c1,p1,ak⟩:=ae.shows;simp only[List.cons.injEq,and_true] at ak;obtain⟨rfl,rfl,rfl,rfl,rfl,rfl,rfl,rfl⟩:=ak;simp only[Nat.zero_mul,Nat.add_zero] at e0 e1 e2 e3 e4 e5 e6 e7;have hE:=In.sboxes hW (gsBox 3 n x f y (sL g o' 1 q1) (.slice a2 bo.length q2) (.slice a3 el.length q3) p) #[iv k1,iv o1,iv n1,.string t1,iv a9,.string a7,.slice b1 m1 c1,iv p1];have b0:∀w',FW base b w w'->IsGE (λ k=>k<base) w' a [iv k1,iv o1,iv n1,.string t1,iv a9,.string a7,.slice b1 m1 c1,iv p1]:=λ w' hF=>ae.since hF.since
 clear ab ag aa am ad ah az ar hW ae;unfold maxLen at ay;go_enter func128,ntmps128;go_wp2_with fail;refine (need_ok _).mono ?_;rintro e w1 ⟨rfl,rfl⟩;have hN:=Dc n;rcases hgn:gName n with _ | _
 .rw[hgn] at hN;go_wp2_with fail;generalize ((w.alloc (sBox (gsBox 3 n x f y (sL g o' 1 q1) (.slice a2 bo.length q2) (.slice a3 el.length q3) p))).alloc (xBox #[iv k1,iv o1,iv n1,.string t1,iv a9,.string a7,.slice b1 m1 c1,iv p1]))=w2 at *;generalize w.heap.size=g0 at *;have l0:g0<w2:=hE.lt (AH _ (AC));have l1:g0+1<w2:=hE.lt (AC);obtain⟨x0,x1,x2,x3,x4,x5,x6,x7,_⟩:=Ab (hE.kept _ (AC));obtain⟨z0,z1,z2,z3,z4,z5,z6,z7,z8,_⟩:=Ae (hE.kept _ (AH _ (AC)));refine (hN _ al).mono ?_;rintro e w3 ⟨rfl,rfl⟩;refine⟨rfl,?_⟩;rw[a0.out,hgn];exact⟨rfl,l,tabs,hE.wr,hE.fw⟩
 have b4:=Co hgn;rw[hgn] at hN;go_wp2_with fail;generalize ((w.alloc (sBox (gsBox 3 n x f y (sL g o' 1 q1) (.slice a2 bo.length q2) (.slice a3 el.length q3) p))).alloc (xBox #[iv k1,iv o1,iv n1,.string t1,iv a9,.string a7,.slice b1 m1 c1,iv p1]))=w2 at *;generalize w.heap.size=g0 at *;have l0:g0<w2:=hE.lt (AH _ (AC));have l1:g0+1<w2:=hE.lt (AC);obtain⟨x0,x1,x2,x3,x4,x5,x6,x7,_⟩:=Ab (hE.kept _ (AC));obtain⟨z0,z1,z2,z3,z4,z5,z6,z7,z8,_⟩:=Ae (hE.kept _ (AH _ (AC)));refine (hN _ al).mono ?_;rintro e w2' ⟨rfl,rfl⟩;go_wp2_with fail;rw[Rt];refine (put_l hE.wr ([100,101,108,32] ++ n) (by simp;omega)).mono ?_;rintro e w3 ⟨rfl,l3,ax,h3,ai⟩;have a4:=hE.step h3 ai;clear l0 l1 x0 x1 x2 x3 x4 x5 x6 x7 z0 z1 z2 z3 z4 z5 z6 z7 z8 hN ai;have l0:g0<w3:=a4.lt (AH _ (AC));have l1:g0+1<w3:=a4.lt (AC);obtain⟨x0,x1,x2,x3,x4,x5,x6,x7,_⟩:=Ab (a4.kept _ (AC));obtain⟨z0,z1,z2,z3,z4,z5,z6,z7,z8,_⟩:=Ae (a4.kept _ (AH _ (AC)));have aj:=I9 av a4.wr (b0 w3 a4.fw);go_wp2_with fail;refine aj.mono ?_;rcases hq0:gE a with _ | x'
 .rintro e w4 ⟨rfl,l4,a6,h4,a8⟩;refine⟨rfl,?_⟩;rw[a0.out,hgn,if_pos rfl,hq0];exact⟨rfl,l4,a6,h4,a4.fw.trans a8⟩
 rintro e w4 ⟨rfl,l4,aq,h4,a8⟩;have a5:=a4.step h4 a8;clear l0 l1 x0 x1 x2 x3 x4 x5 x6 x7 z0 z1 z2 z3 z4 z5 z6 z7 z8 aj a8;have l0:g0<w4:=a5.lt (AH _ (AC));have l1:g0+1<w4:=a5.lt (AC);obtain⟨x0,x1,x2,x3,x4,x5,x6,x7,_⟩:=Ab (a5.kept _ (AC));obtain⟨z0,z1,z2,z3,z4,z5,z6,z7,z8,_⟩:=Ae (a5.kept _ (AH _ (AC)));go_wp2_with fail;refine (put_l a5.wr [59] (by simp)).mono ?_;rintro e w5 ⟨rfl,l5,aw,h5,au⟩;go_wp2
 go_end0
 rw[a0.out,hgn,if_pos rfl,hq0];exact⟨rfl,l5,by simpa using (ax.trans aq).trans aw,h5,a5.fw.trans au⟩
theorem Ac3{base:Nat}  {n:AQ} {a:GE} {bo el:List GS} {l:AQ} {tabs:Nat}   (hW:Wr base b l tabs w) (hx:IsGS (λ k=>k<base) w (.mk 5 n [a] bo el) cs) (aj:n.length<=maxLen) (aq:De base b a) (hB:Lf base b bo) (hd:tabs+1+Eg bo<=1099511627776) :
  AA 128 #[Bg b,.agg cs.toArray] w λ r w'=>WPost base b l tabs w (if gName n then ((gE a).bind λ x=>(gBlk (gSts bo (indT tabs)) (indT tabs) bo.isEmpty).map λ y=>x ++ ([32] ++ y)).map λ z=>[102,111,114,32] ++ (n ++ ([32,116,111,32] ++ z)) else none) r w':=by
 obtain⟨res,a4⟩:∃res:Option (List UInt8),Aside (res=if gName n then ((gE a).bind λ x=>(gBlk (gSts bo (indT tabs)) (indT tabs) bo.isEmpty).map λ y=>x ++ ([32] ++ y)).map λ z=>[102,111,114,32] ++ (n ++ ([32,116,111,32] ++ z)) else none):=⟨_,show _=_ from rfl⟩;rw[<-a4.out];rw[IsGS] at hx;obtain⟨x,y,p,f,s1,s2,s3,r1,r2,r3,rfl,aa,af,a8,ak,ab,ag⟩:=hx;obtain⟨a1,q1,rfl,aw⟩:=aa.slice;obtain⟨a2,q2,rfl,am⟩:=a8.slice;obtain⟨a3,q3,rfl,av⟩:=ab.slice;have au:∀w',FW base b w w'->Bz (λ k=>k<base) w' bo (.slice a2 bo.length q2):=λ w' hF=>⟨r2,a8.since hF.since,ak.since hF.since⟩
 have az:∀w',FW base b w w'->Bz (λ k=>k<base) w' el (.slice a3 el.length q3):=λ w' hF=>⟨r3,ab.since hF.since,ag.since hF.since⟩
 have ae:=λ (q:Nat) (e:GE) (w':World) (hq:([a]:List GE)[q]?=some e) (hF:FW base b w w')=>C1 aa af hF hq
 obtain⟨g,o',u0,u1,u2,u3,u4,u5,u6,u7,rfl,hg,⟨e0,e1,e2,e3,e4,e5,e6,e7⟩,ad⟩:=ae 0 a w rfl (AW _ _ _);obtain⟨k1,o1,n1,t1,a7,a6,b1,m1,c1,p1,ai⟩:=ad.shows;simp only[List.cons.injEq,and_true] at ai;obtain⟨rfl,rfl,rfl,rfl,rfl,rfl,rfl,rfl⟩:=ai;simp only[Nat.zero_mul,Nat.add_zero] at e0 e1 e2 e3 e4 e5 e6 e7;have hE:=In.sboxes hW (gsBox 5 n x f y (sL g o' 1 q1) (.slice a2 bo.length q2) (.slice a3 el.length q3) p) #[iv k1,iv o1,iv n1,.string t1,iv a7,.string a6,.slice b1 m1 c1,iv p1];have ax:∀w',FW base b w w'->IsGE (λ k=>k<base) w' a [iv k1,iv o1,iv n1,.string t1,iv a7,.string a6,.slice b1 m1 c1,iv p1]:=λ w' hF=>ad.since hF.since
 clear aa af a8 ak ab ag aw am hW ad;unfold maxLen at av;go_enter func128,ntmps128;go_wp2_with fail;refine (need_ok _).mono ?_;rintro e w1 ⟨rfl,rfl⟩;have hN:=Dc n;rcases hgn:gName n with _ | _
 .rw[hgn] at hN;go_wp2_with fail;generalize ((w.alloc (sBox (gsBox 5 n x f y (sL g o' 1 q1) (.slice a2 bo.length q2) (.slice a3 el.length q3) p))).alloc (xBox #[iv k1,iv o1,iv n1,.string t1,iv a7,.string a6,.slice b1 m1 c1,iv p1]))=w2 at *;generalize w.heap.size=g0 at *;have l0:g0<w2:=hE.lt (AH _ (AC));have l1:g0+1<w2:=hE.lt (AC);obtain⟨x0,x1,x2,x3,x4,x5,x6,x7,_⟩:=Ab (hE.kept _ (AC));obtain⟨z0,z1,z2,z3,z4,z5,z6,z7,z8,_⟩:=Ae (hE.kept _ (AH _ (AC)));refine (hN _ aj).mono ?_;rintro e w3 ⟨rfl,rfl⟩;refine⟨rfl,?_⟩;rw[a4.out,hgn];exact⟨rfl,l,tabs,hE.wr,hE.fw⟩
 have ay:=Co hgn;rw[hgn] at hN;go_wp2_with fail;generalize ((w.alloc (sBox (gsBox 5 n x f y (sL g o' 1 q1) (.slice a2 bo.length q2) (.slice a3 el.length q3) p))).alloc (xBox #[iv k1,iv o1,iv n1,.string t1,iv a7,.string a6,.slice b1 m1 c1,iv p1]))=w2 at *;generalize w.heap.size=g0 at *;have l0:g0<w2:=hE.lt (AH _ (AC));have l1:g0+1<w2:=hE.lt (AC);obtain⟨x0,x1,x2,x3,x4,x5,x6,x7,_⟩:=Ab (hE.kept _ (AC));obtain⟨z0,z1,z2,z3,z4,z5,z6,z7,z8,_⟩:=Ae (hE.kept _ (AH _ (AC)));refine (hN _ aj).mono ?_;rintro e w2' ⟨rfl,rfl⟩;go_wp2_with fail;rw[Rt,Rt];refine (put_l hE.wr ([102,111,114,32] ++ n ++ [32,116,111,32]) (by simp;omega)).mono ?_;rintro e w3 ⟨rfl,l3,ar,h3,ah⟩;have a0:=hE.step h3 ah;clear l0 l1 x0 x1 x2 x3 x4 x5 x6 x7 z0 z1 z2 z3 z4 z5 z6 z7 z8 hN ah;have l0:g0<w3:=a0.lt (AH _ (AC));have l1:g0+1<w3:=a0.lt (AC);obtain⟨x0,x1,x2,x3,x4,x5,x6,x7,_⟩:=Ab (a0.kept _ (AC));obtain⟨z0,z1,z2,z3,z4,z5,z6,z7,z8,_⟩:=Ae (a0.kept _ (AH _ (AC)));have hC:=Hr aq hB hd a0.wr (ax w3 a0.fw) (au w3 a0.fw);go_wp2_with fail;refine hC.mono ?_;rcases hq:((gE a).bind λ x=>(gBlk (gSts bo (indT tabs)) (indT tabs) bo.isEmpty).map λ y=>x ++ ([32] ++ y)) with _ | z
 .rintro e w9 ⟨rfl,l9,a5,h9,a9⟩;refine⟨rfl,?_⟩;rw[a4.out,hgn,if_pos rfl,hq];exact⟨rfl,l9,a5,h9,a0.fw.trans a9⟩
 .rintro e w9 ⟨rfl,l9,al,h9,a9⟩;go_wp2
  go_end0
  rw[a4.out,hgn,if_pos rfl,hq];exact⟨rfl,l9,by simpa using ar.trans al,h9,a0.fw.trans a9⟩
theorem Ab9{base:Nat}  {n:AQ} {a:GE} {bo el:List GS} {l:AQ} {tabs:Nat}   (hW:Wr base b l tabs w) (hx:IsGS (λ k=>k<base) w (.mk 1 n [a] bo el) cs) (aj:n.length<=maxLen) (aq:De base b a) :
  AA 128 #[Bg b,.agg cs.toArray] w λ r w'=>WPost base b l tabs w (if gName n then (gE a).map λ x=>[108,101,116,32] ++ (n ++ ([32,61,32] ++ (x ++ [59]))) else none) r w':=by
 obtain⟨res,a0⟩:∃res:Option (List UInt8),Aside (res=if gName n then (gE a).map λ x=>[108,101,116,32] ++ (n ++ ([32,61,32] ++ (x ++ [59]))) else none):=⟨_,show _=_ from rfl⟩;rw[<-a0.out];rw[IsGS] at hx;obtain⟨x,y,p,f,s1,s2,s3,r1,r2,r3,rfl,aa,af,a8,ak,ab,ag⟩:=hx;obtain⟨a1,q1,rfl,av⟩:=aa.slice;obtain⟨a2,q2,rfl,am⟩:=a8.slice;obtain⟨a3,q3,rfl,au⟩:=ab.slice;have ax:∀w',FW base b w w'->Bz (λ k=>k<base) w' bo (.slice a2 bo.length q2):=λ w' hF=>⟨r2,a8.since hF.since,ak.since hF.since⟩
 have az:∀w',FW base b w w'->Bz (λ k=>k<base) w' el (.slice a3 el.length q3):=λ w' hF=>⟨r3,ab.since hF.since,ag.since hF.since⟩
 have ae:=λ (q:Nat) (e:GE) (w':World) (hq:([a]:List GE)[q]?=some e) (hF:FW base b w w')=>C1 aa af hF hq
 obtain⟨g,o',u0,u1,u2,u3,u4,u5,u6,u7,rfl,hg,⟨e0,e1,e2,e3,e4,e5,e6,e7⟩,ad⟩:=ae 0 a w rfl (AW _ _ _);obtain⟨k1,o1,n1,t1,a7,a6,b1,m1,c1,p1,ai⟩:=ad.shows;simp only[List.cons.injEq,and_true] at ai;obtain⟨rfl,rfl,rfl,rfl,rfl,rfl,rfl,rfl⟩:=ai;simp only[Nat.zero_mul,Nat.add_zero] at e0 e1 e2 e3 e4 e5 e6 e7;have hE:=In.sboxes hW (gsBox 1 n x f y (sL g o' 1 q1) (.slice a2 bo.length q2) (.slice a3 el.length q3) p) #[iv k1,iv o1,iv n1,.string t1,iv a7,.string a6,.slice b1 m1 c1,iv p1];have aw:∀w',FW base b w w'->IsGE (λ k=>k<base) w' a [iv k1,iv o1,iv n1,.string t1,iv a7,.string a6,.slice b1 m1 c1,iv p1]:=λ w' hF=>ad.since hF.since
 clear aa af a8 ak ab ag av am hW ad;unfold maxLen at au;go_enter func128,ntmps128;go_wp2_with fail;refine (need_ok _).mono ?_;rintro e w1 ⟨rfl,rfl⟩;have hN:=Dc n;rcases hgn:gName n with _ | _
 .rw[hgn] at hN;go_wp2_with fail;generalize ((w.alloc (sBox (gsBox 1 n x f y (sL g o' 1 q1) (.slice a2 bo.length q2) (.slice a3 el.length q3) p))).alloc (xBox #[iv k1,iv o1,iv n1,.string t1,iv a7,.string a6,.slice b1 m1 c1,iv p1]))=w2 at *;generalize w.heap.size=g0 at *;have l0:g0<w2:=hE.lt (AH _ (AC));have l1:g0+1<w2:=hE.lt (AC);obtain⟨x0,x1,x2,x3,x4,x5,x6,x7,_⟩:=Ab (hE.kept _ (AC));obtain⟨z0,z1,z2,z3,z4,z5,z6,z7,z8,_⟩:=Ae (hE.kept _ (AH _ (AC)));refine (hN _ aj).mono ?_;rintro e w3 ⟨rfl,rfl⟩;refine⟨rfl,?_⟩;rw[a0.out,hgn];exact⟨rfl,l,tabs,hE.wr,hE.fw⟩
 have ay:=Co hgn;rw[hgn] at hN;go_wp2_with fail;generalize ((w.alloc (sBox (gsBox 1 n x f y (sL g o' 1 q1) (.slice a2 bo.length q2) (.slice a3 el.length q3) p))).alloc (xBox #[iv k1,iv o1,iv n1,.string t1,iv a7,.string a6,.slice b1 m1 c1,iv p1]))=w2 at *;generalize w.heap.size=g0 at *;have l0:g0<w2:=hE.lt (AH _ (AC));have l1:g0+1<w2:=hE.lt (AC);obtain⟨x0,x1,x2,x3,x4,x5,x6,x7,_⟩:=Ab (hE.kept _ (AC));obtain⟨z0,z1,z2,z3,z4,z5,z6,z7,z8,_⟩:=Ae (hE.kept _ (AH _ (AC)));refine (hN _ aj).mono ?_;rintro e w2' ⟨rfl,rfl⟩;go_wp2_with fail;rw[Rt];refine (put_l hE.wr ([108,101,116,32] ++ n) (by simp;omega)).mono ?_;rintro e w3 ⟨rfl,l3,ar,h3,ah⟩;have a4:=hE.step h3 ah;clear l0 l1 x0 x1 x2 x3 x4 x5 x6 x7 z0 z1 z2 z3 z4 z5 z6 z7 z8 hN ah;have l0:g0<w3:=a4.lt (AH _ (AC));have l1:g0+1<w3:=a4.lt (AC);obtain⟨x0,x1,x2,x3,x4,x5,x6,x7,_⟩:=Ab (a4.kept _ (AC));obtain⟨z0,z1,z2,z3,z4,z5,z6,z7,z8,_⟩:=Ae (a4.kept _ (AH _ (AC)));have hC:=Ja aq a4.wr (aw w3 a4.fw);go_wp2_with fail;refine hC.mono ?_;rcases hq:gE a with _ | x
 .rintro e w9 ⟨rfl,l9,a5,h9,a9⟩;refine⟨rfl,?_⟩;rw[a0.out,hgn,if_pos rfl,hq];exact⟨rfl,l9,a5,h9,a4.fw.trans a9⟩
 .rintro e w9 ⟨rfl,l9,al,h9,a9⟩;go_wp2
  go_end0
  rw[a0.out,hgn,if_pos rfl,hq];exact⟨rfl,l9,by simpa using ar.trans al,h9,a4.fw.trans a9⟩
end
end Go.Proofs.YtpckmjfabiallaaGreatDoor
