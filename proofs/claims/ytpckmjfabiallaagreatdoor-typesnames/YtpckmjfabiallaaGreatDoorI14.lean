/- Texts of ours, joined. -/
import Derived.Test.YtpckmjfabiallaaGreatDoorI12
import Derived.Test.YtpckmjfabiallaaGreatDoorI11
import Derived.ProofKit
import Derived.Test.YtpckmjfabiallaaGreatDoorRows
import Derived.LaidMore
import Derived.OpenShut
import Derived.ShutString
import Derived.Stop.Joined
import Derived.Stop.LaidErr
set_option linter.unusedVariables false
set_option linter.unusedSimpArgs false
set_option maxRecDepth 100000
set_option maxHeartbeats 16000000
namespace Go.Proofs.YtpckmjfabiallaaGreatDoor
variable{g:Nat}{v:Value}{w w' w1:World}
open _root_.Go.Proofs.Tryz
section
open Go.RowKit
theorem sfaultOf_any(w:World):AA 34 #[.iface 107 (.agg #[iv 11])] w λ e w'=>e=.returned (iv 11)/\w'=w:=by
 have a3:∀w1:World,(Instr.typeAssert (.iface 107 (.agg #[iv 11])) 20 107 false).run prog w1=.ok (.agg #[iv 11]) w1:=λ _=>by kernel_rfl
 have a0:∀w1:World,(Instr.field 107 (.agg #[iv 11]) 0).run prog w1=.ok (iv 11) w1:=λ _=>by kernel_rfl
 go_enter func34,ntmps34;go_wp2;go_ret;exact⟨rfl,rfl⟩
theorem J0(p q:Addr)(w:World) :
  CallsD prog 33 #[.pointer (some p),.pointer (some q)] .returning w λ e u' w'=>e=.returned (.tuple #[])/\u'=.returning/\w'=w:=by
 refine callsD_of_wpS func33 rfl λ c₀ cs hu=>?_
 apply wpS_seq;apply wpS_region;simp[wpOpsS,go_sem,recoverD,hu,ntmps33,Exit.thenS];refine wpS_of_wp ?_;go_wp2;cases c₀
 simp_all [bodyPostS,results,results33]
abbrev Lr(x:ByteArray):Obj:=.cells #[.string x] 9 (0,0)
theorem M1(g1 g2 v2:Nat)(x1:ByteArray)(a4:g1<g2)(w:World)(hq:w.heap[g1]?=some (Lr x1))(hr:w.heap[g2]?=some (Cr v2)) :
  CallsD prog 33 #[pt g1 0,pt g2 0] (.panicking C0) w λ e u' w'=>
   e=.returned (.tuple #[])/\u'=.panicking [{ v:=.iface 107 (.agg #[iv 11]),recovered:=true }] /\
   w'.heap[g1]?=some (Lr ⟨#[]⟩)/\w'.heap[g2]?=some (Cr 11)/\Below g1 w w':=by
 refine callsD_of_wpS func33 rfl λ c₀ cs hu=>?_
 apply wpS_seq;apply wpS_region;simp[wpOpsS,go_sem,recoverD,hu,ntmps33,Exit.thenS];refine wpS_of_wp ?_;have lq:g1<w:=(AB hq).1;have lr:g2<w:=(AB hr).1;have k1:=cell_of_one hq;have k2:=free_of_one hq;have k3:=cell_of_one hr;have k4:=free_of_one hr;have a0:((w.setCell g1 sE).setCell g2 (iv 11)).heap[g1]?=some (Lr ⟨#[]⟩)/\((w.setCell g1 sE).setCell g2 (iv 11)).heap[g2]?=some (Cr 11)/\Below g1 w ((w.setCell g1 sE).setCell g2 (iv 11)):=by
  refine⟨?_,?_,?_⟩
  .rw[Below.heap_setCell _ _ _ _ (by show g1≠g2;omega)];simp[World.setCell,Array.getElem?_modify,hq]
  .have:(w.setCell g1 sE).heap[g2]?=some (Cr v2):=(AG _ _ _ _ (by show g2≠g1;omega)).trans hr;simp[World.setCell,Array.getElem?_modify] at this ⊢;simp[this]
  .exact ((AF g1 w).setCell (p:=⟨g1,0,none⟩) (AD _) _).setCell (p:=⟨g2,0,none⟩) (by show g1<=g2;omega) _
 have a3:g1≠g2:=by omega
 go_wp2_with (go_at_call 34;refine (sfaultOf_any _).mono ?_;rintro e w1 ⟨rfl,rfl⟩)
 clear k1 k2 k3 k4 hq hr;generalize ((w1.setCell g1 sE).setCell g2 (iv 11))=w2 at *;cases c₀
 simp_all [bodyPostS,results,results33]
abbrev Pv:Obj:=.cells #[.pointer none,sZ,iv 0] 84 (0,0)
abbrev J1(w:World)(cs:Array Value):World:=(((w.alloc (Jw cs)).alloc (Lr ⟨#[]⟩)).alloc (Cr 0)).alloc Pv
theorem Uq(w:World)(cs:Array Value):(J1 w cs).heap.size=w.heap.size+4:=by simp
theorem J2(w:World)(cs:Array Value):Below w w (J1 w cs):=((((AF _ _).alloc (AD _) _).alloc (by simp) _).alloc (by simp <;> omega) _).alloc (by simp <;> omega) _
theorem Ip(w:World)(cs:Array Value):(J1 w cs).heap[w.heap.size]?=some (Jw cs)/\(J1 w cs).heap[w.heap.size+1]?=some (Lr ⟨#[]⟩)/\(J1 w cs).heap[w.heap.size+1+1]?=some (Cr 0)/\(J1 w cs).heap[w.heap.size+1+1+1]?=some Pv:=by
 refine⟨?_,?_,?_,?_⟩
 .rw[Al (by simp <;> omega),Al (by simp <;> omega),Al (by simp)];exact heap_new w _
 .rw[Al (by simp <;> omega),Al (by simp)];have:=heap_new (w.alloc (Jw cs)) (Lr ⟨#[]⟩);simpa using this
 .rw[Al (by simp)];have:=heap_new ((w.alloc (Jw cs)).alloc (Lr ⟨#[]⟩)) (Cr 0);simpa using this
 .have:=heap_new (((w.alloc (Jw cs)).alloc (Lr ⟨#[]⟩)).alloc (Cr 0)) Pv;simpa using this
theorem Af1(w:World)(cs:Array Value)(ht:Lib.TabIs prog w "internal/strconv.uint64pow10" .u64 Lib.pow10Tab):Wr w (w.heap.size+1+1+1) [] 0 (J1 w cs):=by
 refine⟨by omega,Tb.mono (Lib.tabBelow_of_tabIs ht) (J2 w cs),.pointer none,sZ,AI rfl,(Ip w cs).2.2.2,?_⟩;exact⟨rfl,AI ⟨rfl,rfl⟩⟩
theorem Av8{p:GP}{s:AQ}(h:gPr p=some s):s≠[]:=by
 unfold gPr at h;split at h
 .rcases h1:gSs p.states with _ | x
  .rw[h1] at h;cases h
  .rcases h2:gFs p.fns with _ | y
   .rw[h1,h2] at h;cases h
   .rw[h1,h2] at h;simp only[Option.some.injEq] at h;intro e;rw[e] at h;simp at h
 .cases h
theorem Wq{x1:ByteArray}{v2:Nat}(b1:w1.heap[g]?=some (Lr x1))(b2:w1.heap[g+1]?=some (Cr v2)){n:Nat}(hB:Below n w w1)(hn:n<=g)(x:ByteArray)(er:Value) :
  ∃wF,wF=(w1.setCell g (.string x)).setCell ⟨g+1,0,none⟩ er/\wF.heap[g]?=some (Lr x)/\wF.heap[g+1]?=some (.cells #[er] 27 (0,0))/\Below n w wF:=by
 refine⟨_,rfl,?_,?_,?_⟩
 .rw[Below.heap_setCell _ _ _ _ (by show g≠g+1;omega)];simp[World.setCell,Array.getElem?_modify,b1]
 .have:(w1.setCell g (.string x)).heap[g+1]?=some (Cr v2):=(AG _ _ _ _ (by show g+1≠g;omega)).trans b2;generalize w1.setCell g (.string x)=wX at *;simp[World.setCell,Array.getElem?_modify,this]
 .exact (hB.setCell (p:=⟨g,0,none⟩) hn _).setCell (p:=⟨g+1,0,none⟩) (by show n<=g+1;omega) _
theorem Af2{p:GP}(hO:OkP p)(ht:Lib.TabIs prog w "internal/strconv.uint64pow10" .u64 Lib.pow10Tab)(hx:Pi (λ k=>k<w.heap.size) w p v) :
  AA 17 #[v] w λ e w'=>e=.returned (.tuple #[.string ⟨(Nj 11 p).1.toArray⟩,iv (Nj 11 p).2])/\Below w w w':=by
 have ai:=hx;obtain⟨b3,b6,rfl,⟨ay,ag,_⟩,⟨row2,ae,_⟩⟩:=ai;obtain⟨a1,q1,rfl,aj⟩:=ag.slice;obtain⟨a2,q2,rfl,ak⟩:=ae.slice;obtain⟨cs,am⟩:∃cs:Array Value,cs=#[iv p.version,.slice a1 p.states.length q1,.slice a2 p.fns.length q2]:=⟨_,rfl⟩;have hW:=Af1 w cs ht;obtain⟨d0,d1,d2,d3⟩:=Ip w cs;have b5:=Uq w cs;have a6:=J2 w cs;have hC:=Rx hO hW (hx.since ⟨a6.size,λ k h1 _=>a6.block k h1⟩);obtain⟨res,a0⟩:∃res,Aside (res=Nj 11 p):=⟨_,show _=_ from rfl⟩;rw[<-a0.out];unfold Nj at a0;have b0:∀(fn:Fn) (first cap:Array Value) (w:World),(Instr.makeFunc fn first cap).run prog w=.ok (.func fn first cap) w:=λ _ _ _ _=>rfl
 subst am;obtain⟨c0,c1,c2,_⟩:=Ad d0;clear ag ae aj ak hx hW
 go_enter_defers func17,ntmps17
 go_wp2_with fail
 simp only[J1] at *;generalize ((((w.alloc (Jw #[iv p.version,.slice a1 p.states.length q1,.slice a2 p.fns.length q2])).alloc (Lr ⟨#[]⟩)).alloc (Cr 0)).alloc Pv)=w4 at *;refine hC.mono ?_;generalize hg:w=g0 at *;rcases hq:gPr p with _ | s
 .replace a0:Aside (res=([],11)):=by
   show _=_;rw[a0.out,hq]
  rintro e w5 ⟨rfl,l5,ah,h5,a3⟩;have k1:=a3.block d1 (by omega) (by decide);have k2:=a3.block d2 (by omega) (by decide);have a7:=a6.trans a3.below;refine leaves_cons (f:=33) (args:=#[pt (g0+1) 0,pt (g0+1+1) 0]) (by simp) (by simp[go_sem]) ?_;refine (M1 (g0+1) (g0+1+1) 0 _ (by omega) w5 k1 k2).mono ?_;rintro e u' w6 ⟨rfl,rfl,r1,r2,af⟩;have u1:=cell_of_one r1;have u2:=cell_of_one r2;have ax:=a7.trans (af.mono (by omega));clear r1 r2 af;simp[Leaves,settle,results,results17,go_sem,u1,u2];rw[a0.out];exact⟨⟨rfl,rfl⟩,by rw[hg];exact ax⟩
 .rintro e w5 ⟨rfl,l5,au,h5,a3⟩;obtain⟨al,av⟩:=au.over;have ab:=Av8 hq;have k1:=a3.block d1 (by omega) (by decide);have k2:=a3.block d2 (by omega) (by decide);have a7:=a6.trans a3.below;have a5:=E7 h5;have aq:=h5.lt;have lq:g0+1<w5.heap.size:=by omega
  have lr:g0+1+1<w5.heap.size:=by omega
  by_cases hl:16384<l5.length
  .replace a0:Aside (res=([],3)):=by
    show _=_;rw[a0.out,hq];show (if 16384<s.length then _ else _)=_;rw[if_pos (al.1 hl)]
   simp only[hl,decide_true] at a5;have m1:=cell_of_one k1;have n1:=free_of_one k1;have m2:=cell_of_one k2;have n2:=free_of_one k2;have hX:=Wq k1 k2 a7 (by omega) ⟨#[]⟩ (iv 3);clear hC c0 c1 c2 d0 d1 d2 d3;go_wp2_with fail;refine a5.mono ?_;rintro e w6 ⟨rfl,rfl⟩;go_wp2;obtain⟨wF,a9,r1,r2,aa⟩:=hX;rw[<-a9];have u1:=cell_of_one r1;have u2:=cell_of_one r2;refine leaves_cons (f:=33) (args:=#[pt (g0+1) 0,pt (g0+1+1) 0]) (by simp) (by simp[go_sem]) ?_;refine (J0 _ _ _).mono ?_;rintro e u' w7 ⟨rfl,rfl,rfl⟩;simp[Leaves,settle,results,results17,go_sem,u1,u2];rw[a0.out];exact⟨⟨rfl,rfl⟩,by rw[hg];exact aa⟩
  .have aw:l5=s:=av hl;subst aw;replace a0:Aside (res=(l5,0)):=by
    show _=_;rw[a0.out,hq];show (if 16384<l5.length then _ else _)=_;rw[if_neg hl]
   simp only[hl,decide_false] at a5;have ar:=Rw h5 ab;clear hC c0 c1 c2 d0 d1 d2 d3;go_wp2_with fail;refine a5.mono ?_;rintro e w6 ⟨rfl,rfl⟩;go_wp2_with fail;refine ar.mono ?_;rintro e w7 ⟨rfl,a4⟩;have ad:=a4.block k1 (by omega) (by decide);have a8:=a4.block k2 (by omega) (by decide);have b4:g0+1<w7.heap.size:=by have:=a4.size;omega
   have az:g0+1+1<w7.heap.size:=by have:=a4.size;omega
   have m1:=cell_of_one ad;have n1:=free_of_one ad;have m2:=cell_of_one a8;have n2:=free_of_one a8;have hX:=Wq ad a8 (a7.trans a4.below) (by omega) ⟨l5.toArray⟩ (iv 0);go_wp2;obtain⟨wF,a9,r1,r2,aa⟩:=hX;rw[<-a9];have u1:=cell_of_one r1;have u2:=cell_of_one r2;refine leaves_cons (f:=33) (args:=#[pt (g0+1) 0,pt (g0+1+1) 0]) (by simp) (by simp[go_sem]) ?_;refine (J0 _ _ _).mono ?_;rintro e u' w8 ⟨rfl,rfl,rfl⟩;simp[Leaves,settle,results,results17,go_sem,u1,u2];rw[a0.out];exact⟨⟨rfl,rfl⟩,by rw[hg];exact aa⟩
end
section
open Go.RowKit
open Px (WfP prT)
structure Env8(w:World):Prop where
 env:Env w
 tab:Lib.TabIs prog w "internal/strconv.uint64pow10" .u64 Lib.pow10Tab
theorem Env8.below(h:Env8 w)(k:Below w w w'):Env8 w':=⟨h.env.below k h.env.lt,Lib.tabBelow_of_tabIs h.tab w' k⟩
def shT(p:Px.Pr):List UInt8 × Nat:=if 16384<(prS p).length then ([],3) else (prS p,0)
theorem Af4{p:Px.Pr}(h:WfP VW p):Nj 11 (ofPr p)=shT p:=by
 unfold Nj;rw[Au3 h];rfl
theorem Yp{p:Px.Pr}{B:AS}(hw:WfP VW p)(hc:(prT p).length<=4096)(he:Env8 w)(hx:Ez B w p v) :
  AA 17 #[v] w λ e w'=>e=.returned (.tuple #[.string ⟨(shT p).1.toArray⟩,iv (shT p).2])/\Below w w w':=by
 have:=Af2 (Av9 hw hc) he.tab hx.any.under;rw[Af4 hw] at this;exact this
theorem Py{b:AQ}{p:Px.Pr}(h:Px.parse b=.inl p):WfP VW p/\(prT p).length<=4096:=by
 obtain⟨h1,ts,h2,h3,h4⟩:=T1 h;exact⟨h1,by omega⟩
end
section
open Go.ChangeShapes Go.WideShapes Go.ChangeAt Go.RowKit
theorem own:ownKnob prog.godebug=none:=by kernel_rfl
def laidT:List (String × DataW Unit):=Rows.typesNamesRow.laid
theorem door_met(os:Os)(args:Array Value):laidMetH prog laidT ((World.doorLaid prog 400 os).forCall (λ _ _=>0) ⟨#[],args,[]⟩).memory:=
 laidMetH_of_parts3 (fuel:=8) (laidMet_of_run' 8 (by kernel_rfl) (by kernel_rfl)) (by kernel_rfl) (by kernel_rfl)
theorem gER:prog.globalNamed "strconv.ErrRange"=some 2:=by kernel_rfl
theorem tER:(prog.globals[2]?).map (·.type)=some 138:=by kernel_rfl
theorem Af5: "*" ++ "errors.errorString"= "*errors.errorString":=by decide
theorem Ba1:∀u,prog.typeName? 3 u=some "*errors.errorString"->u=215:=λ u h=>
 typeName_ptr_named (nm:= "errors.errorString") (by rw[Af5];kernel_rfl) (by kernel_rfl) (by decide) u (by rw[Af5];exact h)
theorem gPT:prog.globalNamed "internal/strconv.uint64pow10"=some 0:=by kernel_rfl
theorem tPT:(prog.globals[0]?).map (·.type)=some 200:=by kernel_rfl
theorem env8_of_laid{W:World}(h:laidMetH prog laidT W):Env8 W:=by
 rw[MakeChecks.laidMetH_plain _ _ _ (by kernel_rfl)] at h;have h2:laidMet prog (("internal/strconv.uint64pow10",Lib.tabData .u64 Lib.pow10Tab) :: [("strconv.ErrRange",Rows.laid_strconv_ErrRange),("strconv.ErrSyntax",Rows.laid_strconv_ErrSyntax)]) W:=h.tail.tail;have h3:laidMet prog (("strconv.ErrRange",Rows.laid_strconv_ErrRange) :: [("strconv.ErrSyntax",Rows.laid_strconv_ErrSyntax)]) W:=h.tail.tail.tail;obtain⟨a1,s1,a0,-,-,-⟩:=laid_sentinel h3 gER tER underlying138 Ba1 underlying215 underlying217 rfl rfl underlying9 (by kernel_rfl) (by kernel_rfl);exact⟨⟨_,_,by have h0:=World.var?_cell gER a0 0;simpa using h0⟩,Lib.tabIs_of_head gPT tPT underlying200 underlying183 (by kernel_rfl) (by kernel_rfl) h2⟩
end
end Go.Proofs.YtpckmjfabiallaaGreatDoor
