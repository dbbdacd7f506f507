/- Texts of ours, joined. -/
import Derived.Test.YtnijcolomoobnaaGreatDoorU00
import Derived.Deep.LoopGhost
import Derived.OrdersHeld
import Derived.Lib.AppendZeros
set_option linter.unusedVariables false
set_option linter.unusedSimpArgs false
set_option maxRecDepth 100000
set_option maxHeartbeats 16000000
namespace Go.Proofs.YtnijcolomoobnaaGreatDoor
section
open Go.RowKit
theorem Il:∀(N:Nat) (v:V) (sl:Value) (B:Nat->Prop) (w:World),wt v<N->wt v<=4611686018427387904->IsW B w v sl ->
  Calls Tryz.prog 130 #[.agg #[iv v.k,iv v.n,bz v.t,sl]] w fun r w'=>r=.returned (iv (wt v))∧Below w.heap.size w w':=by
 intro N;induction N with
 | zero=>intro v sl B w h;omega
 | succ N ih=>
  intro v sl B w hN hbig hv;obtain⟨ao,cap,rfl,hc1,hc2⟩:=hv.vs.slice;have hwt:=Bw v;have hlen:=A4 v.l;obtain⟨w0,hW,hb0,hsz,d0,d1,d2,d3⟩:=Aw w v (.slice ao v.l.length cap);have hround:∀(q:Nat) (wr:World),q<v.l.length->Below (w.heap.size+1) w0 wr ->
    ∃x g o ax cx,v.l[q]?=some x∧ao=some ⟨g,o,none⟩∧g<wr.heap.size∧wr.cell? ⟨g,o+q*4,none⟩=some (iv x.k)∧wr.cell? ⟨g,o+q*4+1,none⟩=some (iv x.n)∧wr.cell? ⟨g,o+q*4+2,none⟩=some (bz x.t)∧wr.cell? ⟨g,o+q*4+3,none⟩=some (.slice ax x.l.length cx) ∧
     ∀w2,Below wr.heap.size wr w2->Calls Tryz.prog 130 #[.agg #[iv x.k,iv x.n,bz x.t,.slice ax x.l.length cx]] w2 fun r w'=>r=.returned (iv (wt x))∧Below w2.heap.size w2 w':=by
   intro q wr hq hB;have hx:v.l[q]?=some v.l[q]:=List.getElem?_eq_getElem hq;have hBw:Below w.heap.size w wr:=hb0.trans (hB.mono (by omega));obtain⟨g,o,ax,cx,e,_,hg,c0,c1,c2,c3,hw⟩:=(hv.vs.below hBw).get hx;refine⟨v.l[q],g,o,ax,cx,hx,e,hg,c0,c1,c2,c3,fun w2 hb2=>?_⟩;have:=Df hx;exact ih _ _ B w2 (by omega) (by omega) (hw.below hb2)
  clear ih hv;go_enter Tryz.func130,Tryz.ntmps130;go_wp2_with fail
  go_loopg [3,13] v.l.length (fun g nv i wr=>∃q:Nat,q<=v.l.length∧g=v.l.length - q∧i=iv q∧nv=iv (1+v.t.length+wts (v.l.take q):Nat)∧Below (w.heap.size+1) w0 wr)
  case atStart=>exact⟨0,Nat.zero_le _,rfl,rfl,by simp[wts],by rw[<-hsz];exact Below.refl _ _⟩
  case round=>
   obtain⟨q,hq,rfl,rfl,rfl,hB⟩:=hrel;by_cases hlt:q<v.l.length
   ·obtain⟨x,g,o,ax,cx,hx,rfl,hg,c0,c1,c2,c3,hcall⟩:=hround q wr hlt hB;have hltI:(q:Int)<(v.l.length:Int):=by omega
    have hs:=C8 hx;have hs2:=Dw v.l (q+1);have HS:Hid (wts (v.l.take (q+1))=wts (v.l.take q)+wt x):=hs;have hsum:(1+v.t.length+wts (v.l.take q):Nat)+wt x<=4611686018427387904:=by omega
    clear hs hs2 hround hx;generalize wts (v.l.take q)=z at *;go_wp2_with fail;have hba:Below wr.heap.size wr (wr.alloc (.cells #[iv x.k,iv x.n,bz x.t,.slice ax x.l.length cx] 31)):=(Below.refl _ _).alloc (Nat.le_refl _) _;refine (hcall _ hba).mono ?_;rintro e w3 ⟨rfl,hb3⟩;clear hcall;go_wp2_with fail;go_roundg (v.l.length - (q+1))
    case measure=>omega
    case rel=>exact⟨q+1,by omega,rfl,by go_num,by rw[HS.out];go_num,hB.trans ((hba.trans (hb3.mono hba.size)).mono (by have:=hB.size;omega))⟩
   ·have hltI:¬(q:Int)<(v.l.length:Int):=by omega
    have hqe:q=v.l.length:=by omega
    clear hround;subst hqe;go_wp2;go_ret;refine⟨ret_int ?_,hb0.trans (hB.mono (by omega))⟩;omega
theorem Ex:∀(N:Nat) (v:V) (sl:Value) (B:Nat->Prop) (w:World),wt v<N->wt v<=4611686018427387904->IsW B w v sl ->
  Calls Tryz.prog 23 #[.agg #[iv v.k,iv v.n,bz v.t,sl]] w fun r w'=>r=.returned (iv (wt v))∧Below w.heap.size w w':=by
 intro N;induction N with
 | zero=>intro v sl B w h;omega
 | succ N ih=>
  intro v sl B w hN hbig hv;obtain⟨ao,cap,rfl,hc1,hc2⟩:=hv.vs.slice;have hwt:=Bw v;have hlen:=A4 v.l;obtain⟨w0,hW,hb0,hsz,d0,d1,d2,d3⟩:=Aw w v (.slice ao v.l.length cap);have hround:∀(q:Nat) (wr:World),q<v.l.length->Below (w.heap.size+1) w0 wr ->
    ∃x g o ax cx,v.l[q]?=some x∧ao=some ⟨g,o,none⟩∧g<wr.heap.size∧wr.cell? ⟨g,o+q*4,none⟩=some (iv x.k)∧wr.cell? ⟨g,o+q*4+1,none⟩=some (iv x.n)∧wr.cell? ⟨g,o+q*4+2,none⟩=some (bz x.t)∧wr.cell? ⟨g,o+q*4+3,none⟩=some (.slice ax x.l.length cx) ∧
     ∀w2,Below wr.heap.size wr w2->Calls Tryz.prog 23 #[.agg #[iv x.k,iv x.n,bz x.t,.slice ax x.l.length cx]] w2 fun r w'=>r=.returned (iv (wt x))∧Below w2.heap.size w2 w':=by
   intro q wr hq hB;have hx:v.l[q]?=some v.l[q]:=List.getElem?_eq_getElem hq;have hBw:Below w.heap.size w wr:=hb0.trans (hB.mono (by omega));obtain⟨g,o,ax,cx,e,_,hg,c0,c1,c2,c3,hw⟩:=(hv.vs.below hBw).get hx;refine⟨v.l[q],g,o,ax,cx,hx,e,hg,c0,c1,c2,c3,fun w2 hb2=>?_⟩;have:=Df hx;exact ih _ _ B w2 (by omega) (by omega) (hw.below hb2)
  clear ih hv;go_enter Tryz.func23,Tryz.ntmps23;go_wp2_with fail
  go_loopg [3,13] v.l.length (fun g nv i wr=>∃q:Nat,q<=v.l.length∧g=v.l.length - q∧i=iv q∧nv=iv (1+v.t.length+wts (v.l.take q):Nat)∧Below (w.heap.size+1) w0 wr)
  case atStart=>exact⟨0,Nat.zero_le _,rfl,rfl,by simp[wts],by rw[<-hsz];exact Below.refl _ _⟩
  case round=>
   obtain⟨q,hq,rfl,rfl,rfl,hB⟩:=hrel;by_cases hlt:q<v.l.length
   ·obtain⟨x,g,o,ax,cx,hx,rfl,hg,c0,c1,c2,c3,hcall⟩:=hround q wr hlt hB;have hltI:(q:Int)<(v.l.length:Int):=by omega
    have hs:=C8 hx;have hs2:=Dw v.l (q+1);have HS:Hid (wts (v.l.take (q+1))=wts (v.l.take q)+wt x):=hs;have hsum:(1+v.t.length+wts (v.l.take q):Nat)+wt x<=4611686018427387904:=by omega
    clear hs hs2 hround hx;generalize wts (v.l.take q)=z at *;go_wp2_with fail;have hba:Below wr.heap.size wr (wr.alloc (.cells #[iv x.k,iv x.n,bz x.t,.slice ax x.l.length cx] 31)):=(Below.refl _ _).alloc (Nat.le_refl _) _;refine (hcall _ hba).mono ?_;rintro e w3 ⟨rfl,hb3⟩;clear hcall;go_wp2_with fail;go_roundg (v.l.length - (q+1))
    case measure=>omega
    case rel=>exact⟨q+1,by omega,rfl,by go_num,by rw[HS.out];go_num,hB.trans ((hba.trans (hb3.mono hba.size)).mono (by have:=hB.size;omega))⟩
   ·have hltI:¬(q:Int)<(v.l.length:Int):=by omega
    have hqe:q=v.l.length:=by omega
    clear hround;subst hqe;go_wp2;go_ret;refine⟨ret_int ?_,hb0.trans (hB.mono (by omega))⟩;omega
end
section
open Go Go.RowKit
section
variable {P:Program} {ops:Array Oper} {Q:Exit->Act->World->Prop} {md:Region.Mode} {S T:World->Prop} {N:Nat->Bool}
def wpE(P:Program)(md:Region.Mode)(ops:Array Oper)(Q:Exit->Act->World->Prop)(S:World->Prop)(N:Nat->Bool):Nat->Array Bool->Act->World->Prop
 | 0,listed,a,w=>Region.ready md ops listed=[]∧Q .normal a w
 | f+1,listed,a,w=>(Region.ready md ops listed=[]->Q .normal a w)∧∀i∈Region.ready md ops listed,wpOp P ops Q i (fun a' w'=>(N i=true->S w')∧wpE P md ops Q S N f (listed.setIfInBounds i true) a' w') a w
theorem O4:∀(f:Nat) (listed:Array Bool) (a:Act) (w:World),wpE P md ops Q S N f listed a w->wpAny P md ops Q f listed a w
 | 0,_,_,_,h=>h
 | f+1,_,_,_,h=>⟨h.1,fun i hi=>wpOp_mono (fun a' w' hh=>O4 f _ a' w' hh.2) (h.2 i hi)⟩
theorem Gk{i:Nat}{oi:Oper}{v:Value}(hi:ops[i]?=some oi)(hsel:∀(j:Nat) (o:Oper) cs b,ops[j]?=some o->o.op≠.select cs b)(hQ:∀c a w,Q (.panic c) (a.put oi.dst v) w->Q (.panic c) a w)(hTS:∀w,T w->N i=true->S w) :
  ∀(f:Nat) (listed:Array Bool) (a:Act) (w:World),
   (∀j oj,ops[j]?=some oj->j≠i->listed.getD j true=false->(∀e∈oj.after,Region.binds md e=true->e.on≠i)->oi.apart ops oj=true∧∀w',(N j=true->S w')->T w') ->
   i∈Region.ready md ops listed->YieldsIf P ops T oi v a->T w->wpE P md ops Q S N f (listed.setIfInBounds i true) (a.put oi.dst v) w->wpE P md ops Q S N (f+1) listed a w:=by
 intro f;induction f with
 | zero=>
  intro listed a w hfr hr hy hT H;refine⟨fun h=>absurd hr (by rw[h];simp),fun j hj=>?_⟩;by_cases hji:j=i
  ·subst hji;exact hy.wpOp hi hT ⟨hTS w hT,H⟩
  ·have h0:=ready_mono hj hji;rw[H.1] at h0;simp at h0
 | succ f ih=>
  intro listed a w hfr hr hy hT H;refine⟨fun h=>absurd hr (by rw[h];simp),fun j hj=>?_⟩;by_cases hji:j=i
  ·subst hji;exact hy.wpOp hi hT ⟨hTS w hT,H⟩
  ·have h1:=H.2 j (ready_mono hj hji);obtain⟨hun,oj,hoj,hall⟩:=mem_ready.1 hj;have hnot:∀e∈oj.after,Region.binds md e=true->e.on≠i:=by
    intro e he hb heq;have hon:=hall e he hb;have hun0:=(mem_ready.1 hr).1;rw[heq] at hon;by_cases hlt:i<listed.size
    ·simp[hlt] at hun0 hon;rw[hun0] at hon;simp at hon
    ·simp[Array.getElem?_eq_none (Nat.le_of_not_lt hlt)] at hon
   obtain⟨hap,hTj⟩:=hfr j oj hoj hji hun hnot;have h2:=wpOp_putIf hoj hap (fun cs b=>hsel i oi cs b hi) (fun cs b=>hsel j oj cs b hoj) hQ hy h1;have hfr':∀k ok,ops[k]?=some ok->k≠i->(listed.setIfInBounds j true).getD k true=false->(∀e∈ok.after,Region.binds md e=true->e.on≠i)->oi.apart ops ok=true∧∀w',(N k=true->S w')->T w':=by
    intro k ok hk hki hunk hno;refine hfr k ok hk hki ?_ hno;by_cases hjk:j=k
    ·rw[<-hjk];exact hun
    ·rw[getD_set_ne true hjk] at hunk;exact hunk
   refine wpOp_mono (fun a' w' h3=>⟨h3.2.1,ih _ a' w' hfr' (ready_mono hr (fun e=>hji e.symm)) h3.1 (hTj w' h3.2.1) ?_⟩) h2;rw[Array.setIfInBounds_comm _ _ hji];exact h3.2.2
def Dp(md:Region.Mode)(ops:Array Oper)(N:Nat->Bool)(i:Nat):Bool:=(List.range ops.size).all fun j=>N j || j == i || ((ops[j]?).map fun o=>o.after.any fun e=>Region.binds md e && e.on == i).getD true
theorem Fh{i j:Nat}{oj:Oper}(h:Dp md ops N i=true)(hj:ops[j]?=some oj)(hne:j≠i)(hno:∀e∈oj.after,Region.binds md e=true->e.on≠i):N j=true:=by
 have h1:=List.all_eq_true.1 h j (by simp;exact (Array.getElem?_eq_some_iff.1 hj).1);simp only[hj,Option.map_some,Option.getD_some,Bool.or_eq_true,beq_iff_eq] at h1;rcases h1 with (h1 | h1) | h1
 ·exact h1
 ·exact absurd h1 hne
 ·obtain⟨e,he,hb⟩:=List.any_eq_true.1 (by rw[Array.any_toList];exact h1);simp only[Bool.and_eq_true,beq_iff_eq] at hb;exact absurd hb.2 (hno e (by simpa using he) hb.1)
theorem Rz{i:Nat}{oi:Oper}{v:Value}{f:Nat}{listed:Array Bool}{a:Act}{w:World}(hi:ops[i]?=some oi)(hs:Region.noSelect ops=true)(hf:Region.free md ops listed i=true)(hr:(Region.ready md ops listed).contains i=true)(hl:Dp md ops N i=true)
  (hQ:∀c a w,Q (.panic c) (a.put oi.dst v) w->Q (.panic c) a w) (hw:Region.wanted oi (yielded ops a.tmps)=true) (hy:∀w,S w->(execOp a.eval oi).run P w=.ok (.value v) w) (hS:S w) (h:wpE P md ops Q S N f (listed.setIfInBounds i true) (a.put oi.dst v) w):wpE P md ops Q S N (f+1) listed a w:=
 Gk (T:=S) hi (Region.noSelect_spec hs) hQ (fun _ h _=>h) f listed a w (fun j oj h1 h2 h3 h4=>⟨Region.free_spec hi hf j oj h1 h2 h3 h4,fun w' hw'=>hw' (Fh hl h1 h2 h4)⟩) (by simpa using hr) (Or.inl ⟨hw,hy⟩) hS h
theorem Pz{i:Nat}{oi:Oper}{v:Value}{f:Nat}{listed:Array Bool}{a:Act}{w:World}(hi:ops[i]?=some oi)(hs:Region.noSelect ops=true)(hf:Region.free md ops listed i=true)(hr:(Region.ready md ops listed).contains i=true)(hN:N i=false)
  (hQ:∀c a w,Q (.panic c) (a.put oi.dst v) w->Q (.panic c) a w) (hw:Region.wanted oi (yielded ops a.tmps)=true) (hy:∀w,(execOp a.eval oi).run P w=.ok (.value v) w) (h:wpE P md ops Q S N f (listed.setIfInBounds i true) (a.put oi.dst v) w):wpE P md ops Q S N (f+1) listed a w:=
 Gk (T:=fun _=>True) hi (Region.noSelect_spec hs) hQ (fun _ _ h=>by rw[hN] at h;simp at h) f listed a w (fun j oj h1 h2 h3 h4=>⟨Region.free_spec hi hf j oj h1 h2 h3 h4,fun _ _=>trivial⟩) (by simpa using hr) (Or.inl ⟨hw,fun w _=>hy w⟩) trivial h
theorem M9{i:Nat}{oi:Oper}{v:Value}{W:Nat->Bool}(hi:ops[i]?=some oi)(hsel:∀(j:Nat) (o:Oper) cs b,ops[j]?=some o->o.op≠.select cs b)(hQ:∀c a w,Q (.panic c) (a.put oi.dst v) w->Q (.panic c) a w)(hTS:∀w,T w->N i=true->S w)
  (hW:∀j oj,ops[j]?=some oj->W j=true->∃e∈oj.after,Region.binds md e=true∧(e.on=i∨W e.on=true)) :
  ∀(f:Nat) (listed:Array Bool) (a:Act) (w:World),(∀j,W j=true->j<listed.size∧listed.getD j true=false) ->
   (∀j oj,ops[j]?=some oj->j≠i->W j=false->listed.getD j true=false->(∀e∈oj.after,Region.binds md e=true->e.on≠i)->oi.apart ops oj=true∧∀w',(N j=true->S w')->T w') ->
   i∈Region.ready md ops listed->YieldsIf P ops T oi v a->T w->wpE P md ops Q S N f (listed.setIfInBounds i true) (a.put oi.dst v) w->wpE P md ops Q S N (f+1) listed a w:=by
 intro f;induction f with
 | zero=>
  intro listed a w hWl hfr hr hy hT H;refine⟨fun h=>absurd hr (by rw[h];simp),fun j hj=>?_⟩;by_cases hji:j=i
  ·subst hji;exact hy.wpOp hi hT ⟨hTS w hT,H⟩
  ·have h0:=ready_mono hj hji;rw[H.1] at h0;simp at h0
 | succ f ih=>
  intro listed a w hWl hfr hr hy hT H;refine⟨fun h=>absurd hr (by rw[h];simp),fun j hj=>?_⟩;by_cases hji:j=i
  ·subst hji;exact hy.wpOp hi hT ⟨hTS w hT,H⟩
  ·have h1:=H.2 j (ready_mono hj hji);obtain⟨hun,oj,hoj,hall⟩:=mem_ready.1 hj;have hiun:¬(listed.getD i false=true):=by
    have hun0:=(mem_ready.1 hr).1;by_cases hlt:i<listed.size
    ·simp[hlt] at hun0 ⊢;exact hun0
    ·simp[Array.getElem?_eq_none (Nat.le_of_not_lt hlt)]
   have hnot:∀e∈oj.after,Region.binds md e=true->e.on≠i:=by
    intro e he hb heq;have hon:=hall e he hb;rw[heq] at hon;exact hiun (by simpa using hon)
   have hWj:W j=false:=by
    rcases hw:W j with _ | _
    ·rfl
    ·obtain⟨e,he,hb,ho⟩:=hW j oj hoj hw;have hon:=hall e he hb;rcases ho with ho | ho
     ·exact absurd ho (hnot e he hb)
     ·obtain⟨h2,h3⟩:=hWl _ ho;simp[h2] at hon h3;rw[h3] at hon;cases hon
   obtain⟨hap,hTj⟩:=hfr j oj hoj hji hWj hun hnot;have h2:=wpOp_putIf hoj hap (fun cs b=>hsel i oi cs b hi) (fun cs b=>hsel j oj cs b hoj) hQ hy h1;have hWl':∀k,W k=true->k<(listed.setIfInBounds j true).size∧(listed.setIfInBounds j true).getD k true=false:=by
    intro k hk;have hjk:j≠k:=by rintro rfl;rw[hk] at hWj;cases hWj
    obtain⟨g1,g2⟩:=hWl k hk;exact⟨by simpa using g1,by rw[getD_set_ne true hjk];exact g2⟩
   have hfr':∀k ok,ops[k]?=some ok->k≠i->W k=false->(listed.setIfInBounds j true).getD k true=false->(∀e∈ok.after,Region.binds md e=true->e.on≠i)->oi.apart ops ok=true∧∀w',(N k=true->S w')->T w':=by
    intro k ok hk hki hwk hunk hno;refine hfr k ok hk hki hwk ?_ hno;by_cases hjk:j=k
    ·rw[<-hjk];exact hun
    ·rw[getD_set_ne true hjk] at hunk;exact hunk
   refine wpOp_mono (fun a' w' h3=>⟨h3.2.1,ih _ a' w' hWl' hfr' (ready_mono hr (fun e=>hji e.symm)) h3.1 (hTj w' h3.2.1) ?_⟩) h2;rw[Array.setIfInBounds_comm _ _ hji];exact h3.2.2
def R0(md:Region.Mode)(ops:Array Oper)(N W:Nat->Bool)(listed:Array Bool)(i:Nat):Bool:=(List.range ops.size).all fun j=>if W j then (listed[j]? == some false) && ((ops[j]?).map fun o=>o.after.any fun e=>Region.binds md e && (e.on == i || W e.on)).getD false else (N j || j == i)
theorem B1{i:Nat}{oi:Oper}{v:Value}{f:Nat}{listed:Array Bool}{a:Act}{w:World}(W:Nat->Bool)(hi:ops[i]?=some oi)(hs:Region.noSelect ops=true)(hf:Region.free md ops listed i=true)(hr:(Region.ready md ops listed).contains i=true)(hl:R0 md ops N W listed i=true)(hWs:∀j,W j=true->j<ops.size)
  (hQ:∀c a w,Q (.panic c) (a.put oi.dst v) w->Q (.panic c) a w) (hw:Region.wanted oi (yielded ops a.tmps)=true) (hy:∀w,S w->(execOp a.eval oi).run P w=.ok (.value v) w) (hS:S w) (h:wpE P md ops Q S N f (listed.setIfInBounds i true) (a.put oi.dst v) w):wpE P md ops Q S N (f+1) listed a w:=by
 have hall:=List.all_eq_true.1 hl;refine M9 (T:=S) (W:=W) hi (Region.noSelect_spec hs) hQ (fun _ h _=>h) ?_ f listed a w ?_ (fun j oj h1 h2 hWj h3 h4=>⟨Region.free_spec hi hf j oj h1 h2 h3 h4,fun w' hw'=>hw' ?_⟩) (by simpa using hr) (Or.inl ⟨hw,hy⟩) hS h
 ·intro j oj hj hWj;have h1:=hall j (by simp;exact (Array.getElem?_eq_some_iff.1 hj).1);simp only[hWj,if_true,hj,Option.map_some,Option.getD_some,Bool.and_eq_true] at h1;obtain⟨e,he,hb⟩:=List.any_eq_true.1 (by rw[Array.any_toList];exact h1.2);simp only[Bool.and_eq_true,Bool.or_eq_true,beq_iff_eq] at hb;exact⟨e,by simpa using he,hb.1,hb.2⟩
 ·intro j hWj;have h1:=hall j (by simp;exact hWs j hWj);simp only[hWj,if_true,Bool.and_eq_true,beq_iff_eq] at h1;obtain⟨h2,h3⟩:=Array.getElem?_eq_some_iff.1 h1.1;exact⟨h2,by simp[h2,h3]⟩
 ·have h5:=hall j (by simp;exact (Array.getElem?_eq_some_iff.1 h1).1);simp only[hWj,Bool.false_eq_true,if_false,Bool.or_eq_true,beq_iff_eq] at h5;rcases h5 with h5 | h5
  ·exact h5
  ·exact absurd h5 h2
theorem Ac{i:Nat}{f:Nat}{listed:Array Bool}{a:Act}{w:World}{oi:Oper}(hr:Region.ready md ops listed=[i])(hi:ops[i]?=some oi)(hw:Region.wanted oi (yielded ops a.tmps)=true)
  (h:∀K:Act->World->Prop,(∀a' w',(N i=true->S w')->wpE P md ops Q S N f (listed.setIfInBounds i true) a' w'->K a' w')->oi.wp P a w K Q):wpE P md ops Q S N (f+1) listed a w:=by
 refine⟨fun h0=>by rw[hr] at h0;simp at h0,fun j hj=>?_⟩;rw[hr] at hj;simp at hj;subst hj;unfold wpOp;simp only[hi,hw,if_true];exact Or.inl (h _ (fun a' w' h1 h2=>⟨h1,h2⟩))
theorem Fb{i j:Nat}{f:Nat}{listed:Array Bool}{a:Act}{w:World}{oi oj:Oper}(hr:Region.ready md ops listed=[i,j])(hi:ops[i]?=some oi)(hj:ops[j]?=some oj)(hwi:Region.wanted oi (yielded ops a.tmps)=true)(hwj:Region.wanted oj (yielded ops a.tmps)=true)
  (h1:∀K:Act->World->Prop,(∀a' w',(N i=true->S w')->wpE P md ops Q S N f (listed.setIfInBounds i true) a' w'->K a' w')->oi.wp P a w K Q)
  (h2:∀K:Act->World->Prop,(∀a' w',(N j=true->S w')->wpE P md ops Q S N f (listed.setIfInBounds j true) a' w'->K a' w')->oj.wp P a w K Q):wpE P md ops Q S N (f+1) listed a w:=by
 refine⟨fun h0=>by rw[hr] at h0;simp at h0,fun k hk=>?_⟩;rw[hr] at hk;simp at hk;unfold wpOp;rcases hk with rfl | rfl
 ·simp only[hi,hwi,if_true];exact Or.inl (h1 _ (fun a' w' h1 h2=>⟨h1,h2⟩))
 ·simp only[hj,hwj,if_true];exact Or.inl (h2 _ (fun a' w' h1 h2=>⟨h1,h2⟩))
theorem Am{f:Nat}{listed:Array Bool}{a:Act}{w:World}(hr:Region.ready md ops listed=[])(h:Q .normal a w):wpE P md ops Q S N f listed a w:=by
 cases f with
 | zero=>exact⟨hr,h⟩
 | succ f=>exact⟨fun _=>h,by rw[hr];simp⟩
theorem wpE_begin{id:Nat}{a:Act}{w:World}(hm:P.follows .mixedOrders=true)(h:wpE P .any ops Q S N ops.size (Array.replicate ops.size false) a w.drew):(Code.region id ops true).wp P Q a w:=wp_region_any hm (O4 _ _ _ _ h)
end
theorem aP:(∀(a:Act) (d:Tmp) (v:Value),a.put (some d) v={ a with tmps:=a.tmps.setIfInBounds d v })∧(∀(a:Act) (v:Value),a.put none v=a)∧(∀(l:List Value) (i:Nat) (a:Value),l.toArray.setIfInBounds i a=(l.set i a).toArray)∧(∀(x:Value) (l:List Value) (a:Value),(x :: l).set 0 a=a :: l)∧(∀(x:Value) (l:List Value) (n:Nat) (a:Value),(x :: l).set (n+1) a=x :: l.set n a)∧(∀(l:List Bool) (i:Nat) (a:Bool),l.toArray.setIfInBounds i a=(l.set i a).toArray)∧(∀(x:Bool) (l:List Bool) (a:Bool),(x :: l).set 0 a=a :: l)∧(∀(x:Bool) (l:List Bool) (n:Nat) (a:Bool),(x :: l).set (n+1) a=x :: l.set n a):=
 ⟨fun _ _ _=>rfl,fun _ _=>rfl,fun _ _ _=>List.setIfInBounds_toArray ..,fun _ _ _=>List.set_cons_zero ..,fun _ _ _ _=>List.set_cons_succ ..,fun _ _ _=>List.setIfInBounds_toArray ..,fun _ _ _=>List.set_cons_zero ..,fun _ _ _ _=>List.set_cons_succ ..⟩
end
section
open Go.RowKit
theorem Ax{w:World}{G:Nat}{arr:Array Value}{T:TypeId}(h:w.heap[G]?=some (.cells arr T (0,0)))(i:Nat)(x:Value):(w.setCell ⟨G,i,none⟩ x).heap[G]?=some (.cells (arr.setIfInBounds i x) T (0,0)):=by
 simp[World.setCell,Array.getElem?_modify,h]
theorem cell_block{w:World}{G:Nat}{arr:Array Value}{T:TypeId}(h:w.heap[G]?=some (.cells arr T (0,0)))(i:Nat):w.cell? ⟨G,i,none⟩=arr[i]?:=by
 simp[World.cell?,h]
theorem A7{w:World}{G:Nat}{arr:Array Value}{T:TypeId}(h:w.heap[G]?=some (.cells arr T (0,0)))(i:Nat):w.frozen? ⟨G,i,none⟩=false:=by
 simp[World.frozen?,h]
abbrev set4At(w:World)(g i:Nat)(x0 x1 x2 x3:Value):World:=(((w.setCell ⟨g,i,none⟩ x0).setCell ⟨g,i+1,none⟩ x1).setCell ⟨g,i+2,none⟩ x2).setCell ⟨g,i+3,none⟩ x3
theorem Ct{n:Nat}{w w':World}(h:Below n w w'){g:Nat}(hg:n<=g)(i:Nat)(x0 x1 x2 x3:Value):Below n w (set4At w' g i x0 x1 x2 x3):=((((h.setCell (p:=⟨g,i,none⟩) hg x0).setCell (p:=⟨g,i+1,none⟩) hg x1).setCell (p:=⟨g,i+2,none⟩) hg x2).setCell (p:=⟨g,i+3,none⟩) hg x3)
theorem Bu{w:World}{g k:Nat}(hk:k≠g)(i:Nat)(x0 x1 x2 x3:Value):(set4At w g i x0 x1 x2 x3).heap[k]?=w.heap[k]?:=by
 simp only[set4At];rw[Below.heap_setCell _ _ _ _ hk,Below.heap_setCell _ _ _ _ hk,Below.heap_setCell _ _ _ _ hk,Below.heap_setCell _ _ _ _ hk]
theorem L4(w:World)(g i:Nat)(x0 x1 x2 x3:Value):(set4At w g i x0 x1 x2 x3).heap.size=w.heap.size:=by simp[set4At,World.setCell]
theorem Bi{w:World}{g:Nat}{B:Nat->Prop}(hg:¬B g)(i:Nat)(x0 x1 x2 x3:Value):Since B w (set4At w g i x0 x1 x2 x3):=⟨by rw[L4];exact Nat.le_refl _,fun k h1 _=>Bu (fun e=>hg (by rw[<-e];exact h1)) i x0 x1 x2 x3⟩
theorem E0{w:World}{g:Nat}{y0 y1 y2 y3:Value}{T:TypeId}(h:w.heap[g]?=some (.cells #[y0,y1,y2,y3] T (0,0)))(x0 x1 x2 x3:Value):(Cx w g x0 x1 x2 x3).heap[g]?=some (.cells #[x0,x1,x2,x3] T (0,0)):=by
 simp[Cx,World.setCell,Array.getElem?_modify,h]
theorem E1{w w0 w3:World}{o:Obj}(hW:w.alloc o=w0)(hb:Below w0.heap.size w0 w3):w3.heap[w.heap.size]?=some o:=by
 subst hW;rw[hb.block _ (by simp)];exact Ai w o
theorem E2{w:World}{g:Nat}{y0 y1 y2 y3:Value}{T:TypeId}(h:w.heap[g]?=some (.cells #[y0,y1,y2,y3] T (0,0)))(x:Value):(w.setCell ⟨g,3,none⟩ x).heap[g]?=some (.cells #[y0,y1,y2,x] T (0,0)):=by
 simp[World.setCell,Array.getElem?_modify,h]
theorem Db{w:World}{g b o i:Nat}{x0 x1 x2 x3:Value}(h:b≠g):(set4At w g i x0 x1 x2 x3).cell? ⟨b,o,none⟩=w.cell? ⟨b,o,none⟩:=World.cell?_of_block (Bu h i x0 x1 x2 x3)
def Du(B:Nat->Prop)(w:World)(G n:Nat)(l:List V):Prop:=∃arr:Array Value,w.heap[G]?=some (.cells arr 31 (0,0))∧arr.size=n*4∧l.length<=n∧An B w l (arr.toList.take (l.length*4))
theorem Du.lt{B:Nat->Prop}{w:World}{G n:Nat}{l:List V}(h:Du B w G n l):G<w.heap.size:=by
 obtain⟨arr,h1,_⟩:=h;exact (Array.getElem?_eq_some_iff.1 h1).1
theorem Du.new{B:Nat->Prop}{w:World}{arr:Array Value}{n:Nat}(h:arr.size=n*4):Du B (w.alloc (.cells arr 31)) w.heap.size n []:=
 ⟨arr,Ai _ _,h,Nat.zero_le _,by simp[An]⟩
theorem Du.since{B:Nat->Prop}{w w':World}{G n:Nat}{l:List V}(h:Du B w G n l)(s:Since B w w')(hG:w'.heap[G]?=w.heap[G]?):Du B w' G n l:=by
 obtain⟨arr,h1,h2,h3,h4⟩:=h;exact⟨arr,by rw[hG];exact h1,h2,h3,h4.since s⟩
theorem Du.below{B:Nat->Prop}{w w':World}{G n:Nat}{l:List V}(h:Du B w G n l)(s:Below w.heap.size w w'):Du B w' G n l:=h.since (Since.of_below s) (s.block G h.lt)
theorem Du.cells{B:Nat->Prop}{w:World}{G n:Nat}{l:List V}(h:Du B w G n l){q:Nat}(hq:q<n):∃y0 y1 y2 y3,w.cell? ⟨G,q*4,none⟩=some y0∧w.cell? ⟨G,q*4+1,none⟩=some y1∧w.cell? ⟨G,q*4+2,none⟩=some y2∧w.cell? ⟨G,q*4+3,none⟩=some y3 ∧
  w.frozen? ⟨G,q*4,none⟩=false∧w.frozen? ⟨G,q*4+1,none⟩=false∧w.frozen? ⟨G,q*4+2,none⟩=false∧w.frozen? ⟨G,q*4+3,none⟩=false:=by
 obtain⟨arr,h1,h2,h3,h4⟩:=h;refine⟨arr[q*4]'(by omega),arr[q*4+1]'(by omega),arr[q*4+2]'(by omega),arr[q*4+3]'(by omega),?_,?_,?_,?_,A7 h1 _,A7 h1 _,A7 h1 _,A7 h1 _⟩
 all_goals (rw[cell_block h1];exact Array.getElem?_eq_getElem _)
theorem Du.step{B:Nat->Prop}{w:World}{G n:Nat}{l:List V}(h:Du B w G n l)(hB:¬B G)(hq:l.length<n){x:V}{x0 x1 x2 x3:Value}(hx:IsV B w x [x0,x1,x2,x3]):Du B (set4At w G (l.length*4) x0 x1 x2 x3) G n (l ++ [x]):=by
 have hs:Since B w (set4At w G (l.length*4) x0 x1 x2 x3):=Bi hB _ _ _ _ _;obtain⟨arr,h1,h2,h3,h4⟩:=h;refine⟨_,Ax (Ax (Ax (Ax h1 _ _) _ _) _ _) _ _,by simp[h2],by simp;omega,?_⟩;have hl:=h4.len;have e:(((((arr.setIfInBounds (l.length*4) x0).setIfInBounds (l.length*4+1) x1).setIfInBounds (l.length*4+2) x2).setIfInBounds (l.length*4+3) x3).toList.take ((l ++ [x]).length*4))=arr.toList.take (l.length*4) ++ [x0,x1,x2,x3]:=by
  apply List.ext_getElem?;intro j;have hlen:(l ++ [x]).length*4=l.length*4+4:=by simp;omega
  rw[hlen,List.getElem?_take];by_cases hj:j<l.length*4
  ·rw[if_pos (by omega),List.getElem?_append_left (by simp;omega),List.getElem?_take,if_pos hj];simp only[Array.toList_setIfInBounds];rw[List.getElem?_set_ne (by omega),List.getElem?_set_ne (by omega),List.getElem?_set_ne (by omega),List.getElem?_set_ne (by omega)]
  ·by_cases hj4:j<l.length*4+4
   ·rw[if_pos hj4,List.getElem?_append_right (by simp;omega)];have hl2:(arr.toList.take (l.length*4)).length=l.length*4:=by simp;omega
    rw[hl2];simp only[Array.toList_setIfInBounds];have hcases:j=l.length*4∨j=l.length*4+1∨j=l.length*4+2∨j=l.length*4+3:=by omega
    rcases hcases with rfl | rfl | rfl | rfl
    ·rw[List.getElem?_set_ne (by omega),List.getElem?_set_ne (by omega),List.getElem?_set_ne (by omega),List.getElem?_set_self (by simp;omega)];simp
    ·rw[List.getElem?_set_ne (by omega),List.getElem?_set_ne (by omega),List.getElem?_set_self (by simp;omega)];simp
    ·rw[List.getElem?_set_ne (by omega),List.getElem?_set_self (by simp;omega)];simp
    ·rw[List.getElem?_set_self (by simp;omega)];simp
   ·rw[if_neg hj4,List.getElem?_eq_none (by simp;omega)]
 rw[e];exact (h4.since hs).append (An.one (hx.since hs))
theorem Du.done{B B':Nat->Prop}{w:World}{G n:Nat}{l:List V}(h:Du B w G n l)(hn:l.length=n)(hb:∀k,B k->k<w.heap.size->B' k)(hG:B' G)(hm:n<=maxLen):Al B' w l (sL G 0 l.length n):=by
 have hlt:=h.lt;obtain⟨arr,h1,h2,h3,h4⟩:=h;refine⟨arr.toList.take (l.length*4),⟨h4.len,Or.inr ⟨G,0,n,rfl,by omega,hm,hG,hlt,fun j u hj=>?_⟩⟩,h4.base hb⟩;rw[cell_block h1,Nat.zero_add];rw[List.getElem?_take] at hj;split at hj
 ·simpa using hj
 ·cases hj
theorem Em{T:TypeId}{z:Value}{size bytes:Nat}(h:(Tryz.prog.info? T).map (fun i=>(i.zero,i.size,i.bytes))=some (some z,size,bytes)):∃i,Tryz.prog.info? T=some i∧i.zero=some z∧i.size=size∧i.bytes=bytes:=by
 rcases hi:Tryz.prog.info? T with _ | i
 ·rw[hi] at h;cases h
 ·rw[hi] at h;simp only[Option.map_some,Option.some.injEq,Prod.mk.injEq] at h;exact⟨i,rfl,h.1,h.2.1,h.2.2⟩
theorem Dh:(Tryz.prog.info? 31).map (fun i=>(i.zero,i.size,i.bytes))=some (some (.agg #[iv 0,iv 0,.string ⟨#[]⟩,sZ]),4,56):=by kernel_rfl
theorem Ip(w:World)(row:Option Nat):w.grownBy w row:=⟨rfl,rfl,rfl,Nat.le_refl _,fun _ _ _=>rfl⟩
theorem Ds{w:World}{base e size n:Nat}{v:Value}{xs:List Value}(h:w.ownsRow base e size v n xs):∃ao cap,v=.slice ao n cap∧n<=cap∧cap<=maxLen:=by
 rcases h.2 with⟨h1,h0⟩ | ⟨g,cap,cur,h1,h2,h3,h4,h5,_⟩
 ·exact⟨none,0,by rw[h1,h0],by omega,by unfold maxLen;omega⟩
 ·exact⟨_,cap,h1,h4,h5⟩
theorem Hu{T E:TypeId}{z:Value}{size bytes:Nat}(ht:Tryz.prog.underlying T=some (.slice E))(hinfo:(Tryz.prog.info? E).map (fun i=>(i.zero,i.size,i.bytes))=some (some z,size,bytes))(hzs:z.cells.size=size)(hsz:0<size)(ty:TypeId)
  {w:World} {base n m c:Nat} {v:Value} {xs news:List Value} {ad:Option Addr} (hown:w.ownsRow base E size v n xs) (hnil:ad=none->m=0∧c=0) (hl:news.length=m*size) (hnews:∀b,ad=some b->∀j u,news[j]?=some u->w.cell? (b.add j)=some u) (h1:∀u∈news,u.oneCell'=true)
  (hn:n+m<=100000000) (hby:bytes<=1000) (hbase:base<=w.heap.size) :
  ∃ao cap w',(Builtin.append_ #[T,T] ty #[v,.slice ad m c]).run Tryz.prog w=.ok (.slice ao (n+m) cap) w'∧w'.ownsRow base E size (.slice ao (n+m) cap) (n+m) (xs ++ news)∧Below base w w'∧w.grownBy w' v.ownBlock:=by
 obtain⟨i,hi,hz,hs,hb⟩:=Em hinfo;cases ad with
 | none=>
  obtain⟨rfl,rfl⟩:=hnil rfl;have hne:news=[]:=List.length_eq_zero_iff.1 (by omega);subst hne;obtain⟨ao,cap,rfl,h2,h3⟩:=Ds hown;refine⟨ao,cap,w,?_,by simpa using hown,Below.refl _ _,Ip _ _⟩;exact run_append_owned_none (P:=Tryz.prog) (w:=w) base T ty E i size ht hi _ n xs hown
 | some b=>
  have hmul:(n+m)*bytes<=100000000*1000:=Nat.mul_le_mul hn hby;obtain⟨v',w',hr,ho,hg,_⟩:=run_append_own (P:=Tryz.prog) w base T ty E i z size bytes ht hi hz hs hb hzs hsz v n xs hown b m c news hl (hnews b rfl) h1 (by unfold maxLen;omega) (by omega) hbase;obtain⟨ao,cap,rfl,_,_⟩:=Ds ho;exact⟨ao,cap,w',hr,ho,(Below.refl _ _).grown hg hbase (fun k hk=>(hown.lt k hk).1),hg⟩
theorem L5(n:Nat)(hn:n<=1000000)(w:World):Calls Tryz.prog 101 #[sZ,iv n] w fun r w'=>(∃ao cap,r=.returned (.slice ao 0 cap)∧w'.ownsRow w.heap.size 31 4 (.slice ao 0 cap) 0 [])∧Below w.heap.size w w':=by
 have h0:¬(n:Int)<0:=by omega
 by_cases hz:n=0
 ·subst hz;go_enter Tryz.func101,Tryz.ntmps101;go_wp2;go_ret;exact⟨⟨none,0,rfl,World.ownsRow_nil _ _ _ _⟩,Below.refl _ _⟩
 ·obtain⟨i,hi,hzz,hs,hb⟩:=Em Dh;have hr:=Lib.run_append_nil_zeros (P:=Tryz.prog) w 22 3 22 31 i _ .i64 .i64 Tryz.underlying22 Tryz.underlying3 hi hzz n (by omega) (by omega) (by omega) (by rw[hb];omega);have hge:=grownCap_ge w n 0 31;have hle:=grownCap_le_maxLen w n 0 31 (by unfold maxLen;omega);have hpos:(0:Int)<(n:Int):=by omega
  have hposN:0<n:=by omega
  generalize grownCap w n 0 31=cp at *;have hsz:(Builtin.zeroCells (Value.agg #[iv 0,iv 0,.string ⟨#[]⟩,sZ]).cells n ++ Builtin.zeroCells (Value.agg #[iv 0,iv 0,.string ⟨#[]⟩,sZ]).cells (cp - n)).size=cp*4:=by
   rw[Array.size_append,size_zeroCells,size_zeroCells];show n*4+(cp - n)*4=cp*4;omega
  generalize Builtin.zeroCells (Value.agg #[iv 0,iv 0,.string ⟨#[]⟩,sZ]).cells n ++ Builtin.zeroCells (Value.agg #[iv 0,iv 0,.string ⟨#[]⟩,sZ]).cells (cp - n)=arr at *;unfold maxLen at hle;clear hz hzz hs hb hi;have hcI:(0:Int)<=(cp:Int):=by omega
  go_enter Tryz.func101,Tryz.ntmps101;go_wp2_with (at_builtin;refine Lib.wpList_append_run _ rfl _ _ 22 3 rfl sZ (iv n) rfl rfl _ _ hr ?_);go_ret;refine⟨⟨some ⟨w.heap.size,0,none⟩,cp,?_,?_⟩,?_⟩
  ·rfl
  ·exact World.ownsRow_made (w:=w.drew) arr cp (Nat.le_refl _) (by unfold maxLen;omega) hsz
  ·exact ((Below.refl _ _).drew).alloc (Nat.le_refl _) _
abbrev Lob(B:Nat->Prop)(n:Nat):Nat->Prop:=fun k=>B k∧k<n
abbrev Up(B:Nat->Prop)(n:Nat):Nat->Prop:=fun k=>(B k∧k<n)∨n<=k
theorem E3{B:Nat->Prop}{n:Nat}{w w':World}(h:Below n w w'):Since (Lob B n) w w':=⟨h.size,fun k h1 _=>h.block k h1.2⟩
theorem Vk{B:Nat->Prop}{w:World}{base n:Nat}{v:Value}{row:List Value}{l:List V}(h:w.ownsRow base 31 4 v n row)(hl:l.length=n)(ha:An B w l row){B':Nat->Prop}(hb:∀k,B k->k<w.heap.size->B' k)(hB':∀k,base<=k->B' k):Al B' w l v:=by
 refine⟨row,⟨by rw[hl];exact h.1,?_⟩,ha.base hb⟩;rcases h.2 with⟨h1,h0⟩ | ⟨g,cap,cur,h1,h2,h3,h4,h5,h6,h7⟩
 ·exact Or.inl ⟨Or.inl h1,by omega⟩
 ·refine Or.inr ⟨g,0,cap,by rw[hl];exact h1,by omega,h5,hB' g h2,(Array.getElem?_eq_some_iff.1 h3).1,fun j u hj=>?_⟩;rw[cell_block h3,Nat.zero_add];rw[<-h7,List.getElem?_take] at hj;split at hj
  ·simpa using hj
  ·cases hj
theorem An.ones{B:Nat->Prop}{w:World}:∀{l:List V} {row:List Value},An B w l row->∀u∈row,u.oneCell'=true
 | [],row,h=>by rw[An] at h;subst h;simp
 | a :: r,row,h=>by
  rw[An] at h;obtain⟨c1,c2,rfl,h1,h2⟩:=h;obtain⟨sl,rfl,hw⟩:=At.1 h1;obtain⟨ao,cap,rfl,_,_⟩:=hw.vs.slice;have ih:=An.ones h2;intro u hu;rcases List.mem_append.1 hu with hu | hu
  ·simp only[List.mem_cons,List.not_mem_nil,or_false] at hu;rcases hu with rfl | rfl | rfl | rfl <;> rfl
  ·exact ih u hu
theorem Al.news{B:Nat->Prop}{w:World}{l:List V}{ad:Option Addr}{n c:Nat}(h:Al B w l (.slice ad n c)):∃row,row.length=l.length*4∧An B w l row∧(ad=none->l.length=0∧c=0)∧∀b,ad=some b->∀j u,row[j]?=some u->w.cell? (b.add j)=some u:=by
 obtain⟨row,⟨h1,h2⟩,h3⟩:=h;refine⟨row,h1,h3,?_,?_⟩
 ·rintro rfl;rcases h2 with⟨e | ⟨a,cap,e,_⟩,h0⟩ | ⟨g,o,cap,e,_⟩
  ·simp only[Value.slice.injEq] at e;exact⟨h0,e.2.2⟩
  ·simp at e
  ·simp at e
 ·rintro b rfl j u hu;rcases h2 with⟨-,h0⟩ | ⟨g,o,cap,e,_,_,_,_,hc⟩
  ·have:=(List.getElem?_eq_some_iff.1 hu).1;omega
  ·simp only[Value.slice.injEq,Option.some.injEq] at e;obtain⟨rfl,_,_⟩:=e;have:=hc j u hu;by_cases hj:j=0
   ·subst hj;simpa [Addr.add] using this
   ·simpa [Addr.add,hj] using this
def A5(L:Nat->List V):Nat->List V
 | 0=>[]
 | q+1=>A5 L q ++ L q
theorem Cu(L:Nat->List V)(q:Nat):(A5 L (q+1)).length=(A5 L q).length+(L q).length:=by simp[A5]
theorem Pf(L:Nat->List V)(q:Nat)(h:q<=3):(A5 L q).length<=(A5 L 3).length:=by
 have h1:(A5 L 1).length=_:=Cu L 0;have h2:(A5 L 2).length=_:=Cu L 1;have h3:(A5 L 3).length=_:=Cu L 2;have:q=0∨q=1∨q=2∨q=3:=by omega
 rcases this with rfl | rfl | rfl | rfl <;> omega
theorem Nu{B:Nat->Prop}{L:Nat->List V}{a:Nat->Option Addr}{c:Nat->Nat}{g0:Nat}{w:World}(hcell:∀q,q<3->w.cell? ⟨g0,q,none⟩=some (.slice (a q) (L q).length (c q)))(hg0:g0<w.heap.size)
  (hvs:∀q,q<3->Al B w (L q) (.slice (a q) (L q).length (c q))) (hsum:(A5 L 3).length<=1000000) :
  Calls Tryz.prog 66 #[sL g0 0 3 3] w fun r w'=>(∃ao cap,r=.returned (.slice ao (A5 L 3).length cap)∧Al (Up B w.heap.size) w' (A5 L 3) (.slice ao (A5 L 3).length cap))∧Below w.heap.size w w':=by
 have hvs':∀q,q<3->Al (Lob B w.heap.size) w (L q) (.slice (a q) (L q).length (c q)):=fun q hq=>(hvs q hq).base (fun k h1 h=>⟨h1,h⟩)
 have hG:=L5 (A5 L 3).length (by omega) w;have hround:∀(q:Nat) (wr:World) (v:Value) (row:List Value),q<3->Below w.heap.size w wr->wr.ownsRow w.heap.size 31 4 v (A5 L q).length row->An (Lob B w.heap.size) wr (A5 L q) row ->
   ∃ao cap w',(Builtin.append_ #[22,22] 22 #[v,.slice (a q) (L q).length (c q)]).run Tryz.prog wr=.ok (.slice ao (A5 L (q+1)).length cap) w'∧(∃row',w'.ownsRow w.heap.size 31 4 (.slice ao (A5 L (q+1)).length cap) (A5 L (q+1)).length row'∧An (Lob B w.heap.size) w' (A5 L (q+1)) row')∧Below w.heap.size w w':=by
  intro q wr v row hq hB hown hall;obtain⟨nrow,n1,n2,n3,n4⟩:=((hvs' q hq).since (E3 hB)).news;have hle:=Pf L (q+1) (by omega);have hll:=Cu L q;obtain⟨ao,cap,w',hr,ho,hb,_⟩:=Hu Tryz.underlying22 Dh rfl (by decide) 22 hown n3 n1 n4 n2.ones (by omega) (by decide) hB.size;rw[<-hll] at hr ho;exact⟨ao,cap,w',hr,⟨_,ho,(hall.since (E3 hb)).append (n2.since (E3 hb))⟩,hB.trans hb⟩
 have hcl:∀(q:Nat) (wr:World),q<3->Below w.heap.size w wr->wr.cell? ⟨g0,q,none⟩=some (.slice (a q) (L q).length (c q)):=fun q wr hq hB=>((Ag hB).1 _ _ hg0).trans (hcell q hq)
 clear hvs hvs' hcell;go_enter Tryz.func66,Tryz.ntmps66;go_wp2_with fail
 go_loopg [3,11] 3 (fun g s i wr=>∃q:Nat,q<=3∧g=3 - q∧i=iv q∧s=iv (A5 L q).length∧w=wr)
 case atStart=>exact⟨0,by omega,rfl,rfl,rfl,rfl⟩
 case round=>
  obtain⟨q,hq,rfl,rfl,rfl,rfl⟩:=hrel;by_cases hlt:q<3
  ·have hltI:(q:Int)<3:=by omega
   have hc:=hcl q w hlt (Below.refl _ _);have hle:=Pf L (q+1) (by omega);have hll:=Cu L q;have Hll:Hid ((A5 L (q+1)).length=(A5 L q).length+(L q).length):=hll;have hb1:((A5 L q).length:Int)+((L q).length:Int)<=1000000:=by omega
   have hb2:¬((A5 L q).length:Int)+((L q).length:Int)<0:=by omega
   clear hround hcl hG hll hle;go_wp2_with fail;go_roundg (3 - (q+1))
   case measure=>omega
   case rel=>exact⟨q+1,by omega,rfl,by go_num,by rw[Hll.out];go_num,rfl⟩
  ·have hq3:q=3:=by omega
   subst hq3;go_wp2_with fail;refine hG.mono ?_;rintro e w1 ⟨⟨ao,cap,rfl,hown⟩,hb1⟩;clear hG;go_wp2_with fail
   go_loopg [6,27] 3 (fun g s i wr=>∃(q:Nat) (ao:Option Addr) (cap:Nat),q<=3∧g=3 - q∧i=iv q∧s=.slice ao (A5 L q).length cap∧Hid (∃row,wr.ownsRow w.heap.size 31 4 (.slice ao (A5 L q).length cap) (A5 L q).length row∧An (Lob B w.heap.size) wr (A5 L q) row)∧Below w.heap.size w wr)
   case atStart=>exact⟨0,ao,cap,by omega,rfl,rfl,rfl,⟨[],hown,by simp[A5,An]⟩,hb1⟩
   case round=>
    clear hown hb1;obtain⟨q,ao,cap,hq,rfl,rfl,rfl,HO,hB⟩:=hrel;by_cases hlt:q<3
    ·have hltI:(q:Int)<3:=by omega
     have hc:=hcl q wr hlt hB;obtain⟨row,ho,ha⟩:=HO.out;obtain⟨ao',cap',w',hr,HO',hB'⟩:=hround q wr _ row hlt hB ho ha;have HO2:Hid (∃row,w'.ownsRow w.heap.size 31 4 (.slice ao' (A5 L (q+1)).length cap') (A5 L (q+1)).length row∧An (Lob B w.heap.size) w' (A5 L (q+1)) row):=HO';clear HO HO' hround hcl;go_wp2_with (at_builtin;refine Lib.wpList_append_run _ rfl _ _ 22 22 rfl _ _ rfl rfl _ _ hr ?_);go_roundg (3 - (q+1))
     case measure=>omega
     case rel=>exact⟨q+1,ao',cap',by omega,rfl,by go_num,rfl,HO2,hB'⟩
    ·have hq3:q=3:=by omega
     subst hq3;obtain⟨row,ho,ha⟩:=HO.out;have hfin:=Vk (B':=Up B w.heap.size) ho rfl ha (fun k h _=>Or.inl h) (fun k h=>Or.inr h);clear HO hround hcl ho ha;go_wp2;go_ret;exact⟨⟨ao,cap,rfl,hfin⟩,hB⟩
def Wf(P:Nat->Prop):Nat->World->Value->Prop
 | 0,_,sl=>∃ao cap,sl=.slice ao 0 cap∧cap<=maxLen
 | n+1,w,sl=>(∃ao cap,sl=.slice ao 0 cap∧cap<=maxLen)∨∃g len cap arr,sl=sL g 0 len cap∧len<=cap∧(len<=1000000∧cap<=maxLen)∧P g∧w.heap[g]?=some (.cells arr 31 (0,0))∧len*4<=arr.size ∧
   ∀i,i<len->∃a b s c,arr[i*4]?=some (iv a)∧arr[i*4+1]?=some (iv b)∧arr[i*4+2]?=some (.string s)∧arr[i*4+3]?=some c∧Wf P n w c
theorem Wf.nil{P:Nat->Prop}{n:Nat}{w:World}{ao:Option Addr}{cap:Nat}(h:cap<=maxLen):Wf P n w (.slice ao 0 cap):=by
 cases n with
 | zero=>exact⟨ao,cap,rfl,h⟩
 | succ n=>exact Or.inl ⟨ao,cap,rfl,h⟩
theorem Wf.since{P:Nat->Prop}{w w':World}(s:Since P w w'):∀{n:Nat} {sl:Value},Wf P n w sl->Wf P n w' sl
 | 0,sl,h=>h
 | n+1,sl,h=>by
  rcases h with h | ⟨g,len,cap,arr,h1,h2,h3,h4,h5,h6,h7⟩
  ·exact Or.inl h
  ·refine Or.inr ⟨g,len,cap,arr,h1,h2,h3,h4,by rw[s.block g h4 (Array.getElem?_eq_some_iff.1 h5).1];exact h5,h6,fun i hi=>?_⟩;obtain⟨a,b,s',c,e1,e2,e3,e4,e5⟩:=h7 i hi;exact⟨a,b,s',c,e1,e2,e3,e4,Wf.since s e5⟩
theorem Wf.below{P:Nat->Prop}{w w':World}{n:Nat}{sl:Value}(h:Wf P n w sl)(s:Below w.heap.size w w'):Wf P n w' sl:=h.since (Since.of_below s)
theorem Wf.base{P P':Nat->Prop}{w:World}(hb:∀k,P k->k<w.heap.size->P' k):∀{n:Nat} {sl:Value},Wf P n w sl->Wf P' n w sl
 | 0,sl,h=>h
 | n+1,sl,h=>by
  rcases h with h | ⟨g,len,cap,arr,h1,h2,h3,h4,h5,h6,h7⟩
  ·exact Or.inl h
  ·refine Or.inr ⟨g,len,cap,arr,h1,h2,h3,hb g h4 (Array.getElem?_eq_some_iff.1 h5).1,h5,h6,fun i hi=>?_⟩;obtain⟨a,b,s',c,e1,e2,e3,e4,e5⟩:=h7 i hi;exact⟨a,b,s',c,e1,e2,e3,e4,Wf.base hb e5⟩
def C1(P:Nat->Prop)(N:Nat)(w:World)(G n q:Nat):Prop:=∃arr:Array Value,w.heap[G]?=some (.cells arr 31 (0,0))∧arr.size=n*4∧q<=n ∧
 ∀i,i<q->∃a b s c,arr[i*4]?=some (iv a)∧arr[i*4+1]?=some (iv b)∧arr[i*4+2]?=some (.string s)∧arr[i*4+3]?=some c∧Wf P N w c
theorem C1.new{P:Nat->Prop}{N:Nat}{w:World}{arr:Array Value}{n:Nat}(h:arr.size=n*4):C1 P N (w.alloc (.cells arr 31)) w.heap.size n 0:=
 ⟨arr,Ai _ _,h,Nat.zero_le _,fun i hi=>by omega⟩
theorem C1.since{P:Nat->Prop}{N:Nat}{w w':World}{G n q:Nat}(h:C1 P N w G n q)(s:Since P w w')(hG:w'.heap[G]?=w.heap[G]?):C1 P N w' G n q:=by
 obtain⟨arr,h1,h2,h3,h4⟩:=h;refine⟨arr,by rw[hG];exact h1,h2,h3,fun i hi=>?_⟩;obtain⟨a,b,s',c,e1,e2,e3,e4,e5⟩:=h4 i hi;exact⟨a,b,s',c,e1,e2,e3,e4,e5.since s⟩
theorem C1.below{P:Nat->Prop}{N:Nat}{w w':World}{G n q:Nat}(h:C1 P N w G n q)(s:Below w.heap.size w w'):C1 P N w' G n q:=h.since (Since.of_below s) (by
 obtain⟨arr,h1,_⟩:=h;exact s.block G (Array.getElem?_eq_some_iff.1 h1).1)
theorem C1.step{P:Nat->Prop}{N:Nat}{w:World}{G n q:Nat}(h:C1 P N w G n q)(hB:¬P G)(hq:q<n){a b:Int}{s:ByteArray}{c:Value}(hc:Wf P N w c):C1 P N (set4At w G (q*4) (iv a) (iv b) (.string s) c) G n (q+1):=by
 have hs:Since P w (set4At w G (q*4) (iv a) (iv b) (.string s) c):=Bi hB _ _ _ _ _;obtain⟨arr,h1,h2,h3,h4⟩:=h;refine⟨_,Ax (Ax (Ax (Ax h1 _ _) _ _) _ _) _ _,by simp[h2],by omega,fun i hi=>?_⟩;by_cases hiq:i=q
 ·subst hiq;refine⟨a,b,s,c,?_,?_,?_,?_,hc.since hs⟩
  all_goals simp only[Array.getElem?_setIfInBounds,Array.size_setIfInBounds]
  ·rw[if_neg (by omega),if_neg (by omega),if_neg (by omega),if_pos trivial,if_pos (by omega)]
  ·rw[if_neg (by omega),if_neg (by omega),if_pos trivial,if_pos (by omega)]
  ·rw[if_neg (by omega),if_pos trivial,if_pos (by omega)]
  ·rw[if_pos trivial,if_pos (by omega)]
 ·obtain⟨a',b',s',c',e1,e2,e3,e4,e5⟩:=h4 i (by omega);refine⟨a',b',s',c',?_,?_,?_,?_,e5.since hs⟩
  all_goals (simp only[Array.getElem?_setIfInBounds,Array.size_setIfInBounds];rw[if_neg (by omega),if_neg (by omega),if_neg (by omega),if_neg (by omega)];assumption)
theorem C1.done{P P':Nat->Prop}{N:Nat}{w:World}{G n:Nat}(h:C1 P N w G n n)(hn:n<=1000000)(hb:∀k,P k->k<w.heap.size->P' k)(hG:P' G):Wf P' (N+1) w (sL G 0 n n):=by
 obtain⟨arr,h1,h2,h3,h4⟩:=h;refine Or.inr ⟨G,n,n,arr,rfl,Nat.le_refl _,⟨hn,by unfold maxLen;omega⟩,hG,h1,by omega,fun i hi=>?_⟩;obtain⟨a,b,s,c,e1,e2,e3,e4,e5⟩:=h4 i hi;exact⟨a,b,s,c,e1,e2,e3,e4,e5.base hb⟩
end
end Go.Proofs.YtnijcolomoobnaaGreatDoor
