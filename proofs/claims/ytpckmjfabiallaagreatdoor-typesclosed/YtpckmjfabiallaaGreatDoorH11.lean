/- Texts of ours, joined. -/
import Derived.Test.YtpckmjfabiallaaGreatDoorH05
import Derived.Deep.AppendLies
set_option linter.unusedVariables false
set_option linter.unusedSimpArgs false
set_option maxRecDepth 100000
set_option maxHeartbeats 16000000
namespace Go.Proofs.YtpckmjfabiallaaGreatDoor
variable{T:TypeId}{a:Act}{b f g i mb p sz:Nat}{cs:List Value}{sl v y0 y1 y2 y3 y4 y5:Value}{w w':World}
open List
open Tryz
section
open Go.RowKit
open Ck (CE CS CF CP Mng)
theorem Es{z:Value}{size bytes:Nat}(h:(prog.info? T).map (λ i=>(i.zero,i.size,i.bytes))=some (some z,size,bytes)):∃i,prog.info? T=some i/\i.zero=some z/\i.size=size/\i.bytes=bytes:=by
 rcases hi:prog.info? T with _ | i
 .rw[hi] at h;cases h
 .rw[hi] at h;simp only[Option.map_some,Option.some.injEq,Prod.mk.injEq] at h;exact⟨i,rfl,h.1,h.2.1,h.2.2⟩
theorem Xo:(prog.info? 48).map (λ i=>(i.zero,i.size,i.bytes))=some (some (.agg #[iv 0,iv 0,iv 0,sE,iv 0,sE,sZ,iv 0]),8,96):=by kernel_rfl
theorem Xp:(prog.info? 46).map (λ i=>(i.zero,i.size,i.bytes))=some (some (.agg #[iv 0,sE,iv 0,.bool false,iv 0,sZ,sZ,sZ,iv 0]),9,128):=by kernel_rfl
theorem Bf{cs:Array Value}(h:w.heap[g]?=some (.cells cs T (0,0)))(j:Nat):w.cell? ⟨g,j,none⟩=cs[j]?:=by simp[World.cell?,h]
theorem SlRow.one{B:AS}{n:Nat}{row:AR}(h:SlRow B w sz v n row):v.oneCell'=true:=by
 rcases h.2 with⟨rfl,_⟩ | ⟨g,o,cap,rfl,_⟩ <;> rfl
theorem Cl.ones{B:AS}{e:CE}(h:Cl B w e cs):∀u∈cs,u.oneCell'=true:=by
 obtain⟨k,o,n,s,t,y,args,sl,row,_,rfl,h1,_⟩:=h.cells;have:=h1.one;intro u hu;simp only[mem_cons,not_mem_nil,or_false] at hu;rcases hu with rfl | rfl | rfl | rfl | rfl | rfl | rfl | rfl <;> first | rfl | exact this
theorem Co.cells{B:AS}{e:CS}(h:Co B w e cs):∃(k s n:Nat) (f:Bool) (es:List CE) (b c:List CS) (s1 s2 s3:Value) (r1 r2 r3:AR),e=.mk k s f n es b c/\cs=[iv k,sE,iv s,.bool f,iv n,s1,s2,s3,iv 0]/\SlRow B w 8 s1 es.length r1/\Aw B w es r1/\SlRow B w 9 s2 b.length r2/\Au B w b r2/\SlRow B w 9 s3 c.length r3/\Au B w c r3:=by
 obtain⟨k,s,f,n,es,b,c⟩:=e;rw[Co] at h;obtain⟨s1,s2,s3,r1,r2,r3,h⟩:=h;exact⟨k,s,n,f,es,b,c,s1,s2,s3,r1,r2,r3,rfl,h⟩
theorem Co.len{B:AS}{e:CS}(h:Co B w e cs):cs.length=9:=by
 obtain⟨k,s,n,f,es,b,c,s1,s2,s3,r1,r2,r3,_,rfl,_⟩:=h.cells;rfl
theorem Co.ones{B:AS}{e:CS}(h:Co B w e cs):∀u∈cs,u.oneCell'=true:=by
 obtain⟨k,s,n,f,es,b,c,s1,s2,s3,r1,r2,r3,_,rfl,h1,_,h2,_,h3,_⟩:=h.cells;have:=h1.one;have:=h2.one;have:=h3.one;intro u hu;simp only[mem_cons,not_mem_nil,or_false] at hu;rcases hu with rfl | rfl | rfl | rfl | rfl | rfl | rfl | rfl | rfl <;> first | rfl | assumption
def Ge(P:AS)(w:World)(sl:Value)(acc:List CE):Prop:=∃row,w.ownsRow 0 48 8 sl acc.length row/\(∀k,sl.ownBlock=some k->P k)/\Aw (λ k=>P k/\sl.ownBlock≠some k) w acc row
theorem Ge.nil(P:AS)(w:World):Ge P w sZ []:=⟨[],⟨rfl,AI ⟨rfl,rfl⟩⟩,λ k h=>by simp[Value.ownBlock] at h,by rw[Aw]⟩
theorem Ge.since{P:AS}{acc:List CE}(h:Ge P w sl acc)(s:Since P w w'):Ge P w' sl acc:=by
 obtain⟨row,h1,h0,h2⟩:=h;refine⟨row,⟨h1.1,?_⟩,h0,h2.since ⟨s.size,λ k hk hl=>s.block k hk.1 hl⟩⟩;rcases h1.2 with h3 | ⟨g,cap,cur,h3,h4,h5,h6⟩
 .exact AI h3
 .exact AJ ⟨g,cap,cur,h3,h4,by rw[s.block g (h0 g (by rw[h3];rfl)) (Array.getElem?_eq_some_iff.1 h5).1];exact h5,h6⟩
theorem Ge.below{P:AS}{acc:List CE}(h:Ge P w sl acc)(hb:Below w.heap.size w w'):Ge P w' sl acc:=h.since (Since.of_below hb)
theorem Ge.row{P:AS}{w:World}{sl:Value}{acc:List CE}(h:Ge P w sl acc):∃row,SlRow P w 8 sl acc.length row/\Aw P w acc row:=by
 obtain⟨row,h1,h0,h2⟩:=h;refine⟨row,⟨by have:=h1.1;omega,?_⟩,h2.base (λ k hk _=>hk.1)⟩;rcases h1.2 with⟨h3,h4⟩ | ⟨g,cap,cur,h3,h4,h5,h6,h7,h8,h9⟩
 .exact AI ⟨h3,h4⟩
 .refine AJ ⟨g,0,cap,h3,h6,h7,h0 g (by rw[h3];rfl),(AB h5).1,λ j u hj=>?_⟩;rw[Bf h5,Nat.zero_add];rw[<-h9,List.getElem?_take] at hj;split at hj
  .simpa using hj
  .cases hj
theorem Ge.apart{P:AS}{acc:List CE}(h:Ge P w sl acc){k:Nat}(hk:w.heap.size<=k):sl.ownBlock≠some k:=by
 obtain⟨row,h1,_⟩:=h;intro e;have:=(h1.lt k e).2;omega
theorem Ge.base{P P':AS}{acc:List CE}(h:Ge P w sl acc)(hb:∀k,P k->k<w.heap.size->P' k):Ge P' w sl acc:=by
 obtain⟨row,h1,h0,h2⟩:=h;exact⟨row,h1,λ k hk=>hb k (h0 k hk) (h1.lt k hk).2,h2.base (λ k hk hl=>⟨hb k hk.1 hl,hk.2⟩)⟩
theorem Ge.push{P:AS}{acc:List CE}(h:Ge P w sl acc){x:CE}{ad:Addr}(a4:∀(j:Nat) (u:Value),cs[j]?=some u->w.cell? (ad.add j)=some u)(hx:Cl (λ k=>P k/\sl.ownBlock≠some k) w x cs)(hn:acc.length+1<=1000000)(hm:∀k,w.heap.size<=k->P k)(c:Nat)(ty:TypeId) :
  ∃g cap w',(Builtin.append_ #[44,44] ty #[sl,.slice (some ad) 1 c]).run prog w=.ok (sL g 0 (acc.length+1) cap) w'/\Ge P w' (sL g 0 (acc.length+1) cap) (acc ++ [x])/\(∀m,m<=w.heap.size->(∀k,P k->m<=k)->Below m w w')/\(∀k,k<w.heap.size->sl.ownBlock≠some k->w'.heap[k]?=w.heap[k]?)/\w.heap.size<=w'.heap.size/\(sl.ownBlock=some g\/w.heap.size<=g):=by
 obtain⟨row,a5,hP,a7⟩:=h;obtain⟨i,hi,hz,hs,hb⟩:=Es Xo;obtain⟨g,cap,w',hr,ho,hg,a6,aa⟩:=run_append_lies (P:=prog) w 44 ty 0 48 i _ 8 96 underlying44 hi hz hs hb rfl (by decide) sl acc.length row a5 ad 1 c cs (by rw[hx.len]) a4 hx.ones (by omega) (by unfold maxLen;omega) (by omega) (AO _) _ rfl;have a8:∀k,P k/\sl.ownBlock≠some k->k<w.heap.size->k≠g:=by
  intro k hk hl he;subst he;rcases a6 with h | h
  .exact hk.2 h
  .omega
 have a3:∀k,(P k/\sl.ownBlock≠some k)->k<w.heap.size->P k/\(sL g 0 (acc.length+1) cap).ownBlock≠some k/\(P k/\sl.ownBlock≠some k):=λ k h1 h2=>⟨h1.1,λ e=>a8 k h1 h2 (by simpa [Value.ownBlock] using e.symm),h1⟩
 have a0:Since (λ k=>P k/\(sL g 0 (acc.length+1) cap).ownBlock≠some k/\(P k/\sl.ownBlock≠some k)) w w':=⟨hg.size,λ k h1 h2=>hg.block k h2 (λ e=>h1.2.2.2 e.symm)⟩;refine⟨g,cap,w',hr,⟨row ++ cs,by simpa using ho,?_,?_⟩,λ m hm1 hm2=>(AF _ _).grown hg hm1 (λ k hk=>hm2 k (hP k hk)),λ k h1 h2=>hg.block k h1 (λ e=>h2 e.symm),hg.size,?_⟩
 .intro k hk;have a9:g=k:=by simpa [Value.ownBlock] using hk
  rw[<-a9];rcases a6 with h | h
  .exact hP g h
  .exact hm g (by omega)
 .exact (((a7.base a3).since a0).snoc ((hx.base a3).since a0)).base (λ k h _=>⟨h.1,h.2.1⟩)
 .rcases a6 with h | h
  .exact AI h
  .exact AJ (by omega)
def Gs(P:AS)(w:World)(sl:Value)(acc:List CS):Prop:=∃row,w.ownsRow 0 46 9 sl acc.length row/\(∀k,sl.ownBlock=some k->P k)/\Au (λ k=>P k/\sl.ownBlock≠some k) w acc row
theorem Gs.nil(P:AS)(w:World):Gs P w sZ []:=⟨[],⟨rfl,AI ⟨rfl,rfl⟩⟩,λ k h=>by simp[Value.ownBlock] at h,by rw[Au]⟩
theorem Gs.since{P:AS}{acc:List CS}(h:Gs P w sl acc)(s:Since P w w'):Gs P w' sl acc:=by
 obtain⟨row,h1,h0,h2⟩:=h;refine⟨row,⟨h1.1,?_⟩,h0,h2.since ⟨s.size,λ k hk hl=>s.block k hk.1 hl⟩⟩;rcases h1.2 with h3 | ⟨g,cap,cur,h3,h4,h5,h6⟩
 .exact AI h3
 .exact AJ ⟨g,cap,cur,h3,h4,by rw[s.block g (h0 g (by rw[h3];rfl)) (Array.getElem?_eq_some_iff.1 h5).1];exact h5,h6⟩
theorem Gs.below{P:AS}{acc:List CS}(h:Gs P w sl acc)(hb:Below w.heap.size w w'):Gs P w' sl acc:=h.since (Since.of_below hb)
theorem Gs.row{P:AS}{w:World}{sl:Value}{acc:List CS}(h:Gs P w sl acc):∃row,SlRow P w 9 sl acc.length row/\Au P w acc row:=by
 obtain⟨row,h1,h0,h2⟩:=h;refine⟨row,⟨by have:=h1.1;omega,?_⟩,h2.base (λ k hk _=>hk.1)⟩;rcases h1.2 with⟨h3,h4⟩ | ⟨g,cap,cur,h3,h4,h5,h6,h7,h8,h9⟩
 .exact AI ⟨h3,h4⟩
 .refine AJ ⟨g,0,cap,h3,h6,h7,h0 g (by rw[h3];rfl),(AB h5).1,λ j u hj=>?_⟩;rw[Bf h5,Nat.zero_add];rw[<-h9,List.getElem?_take] at hj;split at hj
  .simpa using hj
  .cases hj
theorem Gs.apart{P:AS}{acc:List CS}(h:Gs P w sl acc){k:Nat}(hk:w.heap.size<=k):sl.ownBlock≠some k:=by
 obtain⟨row,h1,_⟩:=h;intro e;have:=(h1.lt k e).2;omega
theorem Gs.base{P P':AS}{acc:List CS}(h:Gs P w sl acc)(hb:∀k,P k->k<w.heap.size->P' k):Gs P' w sl acc:=by
 obtain⟨row,h1,h0,h2⟩:=h;exact⟨row,h1,λ k hk=>hb k (h0 k hk) (h1.lt k hk).2,h2.base (λ k hk hl=>⟨hb k hk.1 hl,hk.2⟩)⟩
theorem Gs.push{P:AS}{acc:List CS}(h:Gs P w sl acc){x:CS}{ad:Addr}(a4:∀(j:Nat) (u:Value),cs[j]?=some u->w.cell? (ad.add j)=some u)(hx:Co (λ k=>P k/\sl.ownBlock≠some k) w x cs)(hn:acc.length+1<=1000000)(hm:∀k,w.heap.size<=k->P k)(c:Nat)(ty:TypeId) :
  ∃g cap w',(Builtin.append_ #[34,34] ty #[sl,.slice (some ad) 1 c]).run prog w=.ok (sL g 0 (acc.length+1) cap) w'/\Gs P w' (sL g 0 (acc.length+1) cap) (acc ++ [x])/\(∀m,m<=w.heap.size->(∀k,P k->m<=k)->Below m w w')/\(∀k,k<w.heap.size->sl.ownBlock≠some k->w'.heap[k]?=w.heap[k]?)/\w.heap.size<=w'.heap.size/\(sl.ownBlock=some g\/w.heap.size<=g):=by
 obtain⟨row,a5,hP,a7⟩:=h;obtain⟨i,hi,hz,hs,hb⟩:=Es Xp;obtain⟨g,cap,w',hr,ho,hg,a6,aa⟩:=run_append_lies (P:=prog) w 34 ty 0 46 i _ 9 128 underlying34 hi hz hs hb rfl (by decide) sl acc.length row a5 ad 1 c cs (by rw[hx.len]) a4 hx.ones (by omega) (by unfold maxLen;omega) (by omega) (AO _) _ rfl;have a8:∀k,P k/\sl.ownBlock≠some k->k<w.heap.size->k≠g:=by
  intro k hk hl he;subst he;rcases a6 with h | h
  .exact hk.2 h
  .omega
 have a3:∀k,(P k/\sl.ownBlock≠some k)->k<w.heap.size->P k/\(sL g 0 (acc.length+1) cap).ownBlock≠some k/\(P k/\sl.ownBlock≠some k):=λ k h1 h2=>⟨h1.1,λ e=>a8 k h1 h2 (by simpa [Value.ownBlock] using e.symm),h1⟩
 have a0:Since (λ k=>P k/\(sL g 0 (acc.length+1) cap).ownBlock≠some k/\(P k/\sl.ownBlock≠some k)) w w':=⟨hg.size,λ k h1 h2=>hg.block k h2 (λ e=>h1.2.2.2 e.symm)⟩;refine⟨g,cap,w',hr,⟨row ++ cs,by simpa using ho,?_,?_⟩,λ m hm1 hm2=>(AF _ _).grown hg hm1 (λ k hk=>hm2 k (hP k hk)),λ k h1 h2=>hg.block k h1 (λ e=>h2 e.symm),hg.size,?_⟩
 .intro k hk;have a9:g=k:=by simpa [Value.ownBlock] using hk
  rw[<-a9];rcases a6 with h | h
  .exact hP g h
  .exact hm g (by omega)
 .exact (((a7.base a3).since a0).snoc ((hx.base a3).since a0)).base (λ k h _=>⟨h.1,h.2.1⟩)
 .rcases a6 with h | h
  .exact AI h
  .exact AJ (by omega)
theorem Cc{P:Program}{o:Oper}{K:Act->World->Prop}{Q:Exit->Act->World->Prop}(s x:Operand)(t:TypeId)(ho:o.op=.call { callee:=.builtin .append,args:=#[s,x],argTypes:=#[t,t] })(v xv:Value)(hs:a.eval s=v)(hx:a.eval x=xv)(v':Value)(ww:World)(hr:(Builtin.append_ #[t,t] o.type #[v,xv]).run P w=.ok v' ww)(h:K (a.put o.dst v') ww):o.wp P a w K Q:=by
 unfold Oper.wp execOp;simp only[ho,resolve,invoke,builtin,Sem.run_bind,Sem.run_pure,Result.andThen_ok,map_toArray,map_cons,map_nil,hs,hx,hr];exact h
end
section
open Go.RowKit
open Ck (CE CS CF CP Mng)
attribute [local go_sem ↓] Go.wp_at_zero Go.wp_at_succ
theorem Rh{k o n:Nat}{t:AQ}(ht:Ck.bkind t=8){mb:Nat}{c:Ck.Cx}{B:AS}{args:List Px.Ex}{row:AR}(hr:SlRow B w 8 sl args.length row)(hl:args.length≠1) :
  AA 193 #[pt b 0,.agg (exA k o n t sl p)] w λ e w'=>Ae w (Ck.builtin t p (Ck.cEs c args)) e w':=by
 obtain⟨w0,w1,a8,a7,l0,l1,a4,a5,a9⟩:=Az w (iv k) (iv o) (iv n) (strV t) (iv 0) sE sl (iv p);obtain⟨ao,cap,rfl,ab,aa⟩:=hr.val;obtain⟨d0,d1,d2,d3,d4,d5,d6,d7,-⟩:=Ac a5;have hk:=Cm t w1;rw[ht] at hk;have hR:Ck.builtin t p (Ck.cEs c args)=.inr (p,35):=by
  unfold Ck.builtin;simp only[ht,Ck.cEs_length,Ck.pair];have:(args.length == 1)=false:=by simpa using hl
  simp[this,Ck.need,Ck.bind]
 rw[hR];have a0:Hid (Ae w (.inr (p,35)) (.panicked (Af p 35)) w1):=⟨rfl,a4⟩;have hq:((args.length:Int) == 1)=false:=by rw[beq_eq_false_iff_ne];omega
 have hN:=Ao p 35 w1;generalize args.length=L at *;clear hr hR ht;by_cases h2:L=2
 .have a6:((L:Int) == 2)=true:=by simp[h2]
  clear h2;go_enter func193,ntmps193;go_wp2_with fail;refine hk.mono ?_;rintro e w2 ⟨rfl,a3⟩;obtain rfl:=a3.symm;clear hk;go_wp2_with fail;refine hN.mono ?_;rintro e w3 ⟨rfl,rfl⟩;exact⟨rfl,a0.out⟩
 .have a6:((L:Int) == 2)=false:=by rw[beq_eq_false_iff_ne];omega
  clear h2;go_enter func193,ntmps193;go_wp2_with fail;refine hk.mono ?_;rintro e w2 ⟨rfl,a3⟩;obtain rfl:=a3.symm;clear hk;go_wp2_with fail;refine hN.mono ?_;rintro e w3 ⟨rfl,rfl⟩;exact⟨rfl,a0.out⟩
theorem Ri{k o n:Nat}{t:AQ}(ht:Ck.bkind t=9){mb:Nat}{c:Ck.Cx}{B:AS}{args:List Px.Ex}{row:AR}(hr:SlRow B w 8 sl args.length row)(hl:args.length≠2) :
  AA 193 #[pt b 0,.agg (exA k o n t sl p)] w λ e w'=>Ae w (Ck.builtin t p (Ck.cEs c args)) e w':=by
 obtain⟨w0,w1,a8,a7,l0,l1,a4,a5,a9⟩:=Az w (iv k) (iv o) (iv n) (strV t) (iv 0) sE sl (iv p);obtain⟨ao,cap,rfl,ab,aa⟩:=hr.val;obtain⟨d0,d1,d2,d3,d4,d5,d6,d7,-⟩:=Ac a5;have hk:=Cm t w1;rw[ht] at hk;have hR:Ck.builtin t p (Ck.cEs c args)=.inr (p,35):=by
  unfold Ck.builtin;simp only[ht,Ck.cEs_length,Ck.pair];have:(args.length == 2)=false:=by simpa using hl
  simp[this,Ck.need,Ck.bind]
 rw[hR];have a0:Hid (Ae w (.inr (p,35)) (.panicked (Af p 35)) w1):=⟨rfl,a4⟩;have hq:((args.length:Int) == 2)=false:=by rw[beq_eq_false_iff_ne];omega
 have hN:=Ao p 35 w1;generalize args.length=L at *;clear hr hR ht;by_cases h2:L=1
 .have a6:((L:Int) == 1)=true:=by simp[h2]
  clear h2;go_enter func193,ntmps193;go_wp2_with fail;refine hk.mono ?_;rintro e w2 ⟨rfl,a3⟩;obtain rfl:=a3.symm;clear hk;go_wp2_with fail;refine hN.mono ?_;rintro e w3 ⟨rfl,rfl⟩;exact⟨rfl,a0.out⟩
 .have a6:((L:Int) == 1)=false:=by rw[beq_eq_false_iff_ne];omega
  clear h2;go_enter func193,ntmps193;go_wp2_with fail;refine hk.mono ?_;rintro e w2 ⟨rfl,a3⟩;obtain rfl:=a3.symm;clear hk;go_wp2_with fail;refine hN.mono ?_;rintro e w3 ⟨rfl,rfl⟩;exact⟨rfl,a0.out⟩
theorem O4{k o n:Nat}{t:AQ}(ht:Ck.bkind t=10){mb:Nat}{c:Ck.Cx}{B:AS}{args:List Px.Ex}{row:AR}(hr:SlRow B w 8 sl args.length row)(hl:args.length≠2) :
  AA 193 #[pt b 0,.agg (exA k o n t sl p)] w λ e w'=>Ae w (Ck.builtin t p (Ck.cEs c args)) e w':=by
 obtain⟨w0,w1,a8,a7,l0,l1,a4,a5,a9⟩:=Az w (iv k) (iv o) (iv n) (strV t) (iv 0) sE sl (iv p);obtain⟨ao,cap,rfl,ab,aa⟩:=hr.val;obtain⟨d0,d1,d2,d3,d4,d5,d6,d7,-⟩:=Ac a5;have hk:=Cm t w1;rw[ht] at hk;have hR:Ck.builtin t p (Ck.cEs c args)=.inr (p,35):=by
  unfold Ck.builtin;simp only[ht,Ck.cEs_length,Ck.pair];have:(args.length == 2)=false:=by simpa using hl
  simp[this,Ck.need,Ck.bind]
 rw[hR];have a0:Hid (Ae w (.inr (p,35)) (.panicked (Af p 35)) w1):=⟨rfl,a4⟩;have hq:((args.length:Int) == 2)=false:=by rw[beq_eq_false_iff_ne];omega
 have hN:=Ao p 35 w1;generalize args.length=L at *;clear hr hR ht;by_cases h2:L=1
 .have a6:((L:Int) == 1)=true:=by simp[h2]
  clear h2;go_enter func193,ntmps193;go_wp2_with fail;refine hk.mono ?_;rintro e w2 ⟨rfl,a3⟩;obtain rfl:=a3.symm;clear hk;go_wp2_with fail;refine hN.mono ?_;rintro e w3 ⟨rfl,rfl⟩;exact⟨rfl,a0.out⟩
 .have a6:((L:Int) == 1)=false:=by rw[beq_eq_false_iff_ne];omega
  clear h2;go_enter func193,ntmps193;go_wp2_with fail;refine hk.mono ?_;rintro e w2 ⟨rfl,a3⟩;obtain rfl:=a3.symm;clear hk;go_wp2_with fail;refine hN.mono ?_;rintro e w3 ⟨rfl,rfl⟩;exact⟨rfl,a0.out⟩
theorem O5{k o n:Nat}{t:AQ}(ht:Ck.bkind t=11){mb:Nat}{c:Ck.Cx}{B:AS}{args:List Px.Ex}{row:AR}(hr:SlRow B w 8 sl args.length row)(hl:args.length≠1) :
  AA 193 #[pt b 0,.agg (exA k o n t sl p)] w λ e w'=>Ae w (Ck.builtin t p (Ck.cEs c args)) e w':=by
 obtain⟨w0,w1,a8,a7,l0,l1,a4,a5,a9⟩:=Az w (iv k) (iv o) (iv n) (strV t) (iv 0) sE sl (iv p);obtain⟨ao,cap,rfl,ab,aa⟩:=hr.val;obtain⟨d0,d1,d2,d3,d4,d5,d6,d7,-⟩:=Ac a5;have hk:=Cm t w1;rw[ht] at hk;have hR:Ck.builtin t p (Ck.cEs c args)=.inr (p,35):=by
  unfold Ck.builtin;simp only[ht,Ck.cEs_length,Ck.pair];have:(args.length == 1)=false:=by simpa using hl
  simp[this,Ck.need,Ck.bind]
 rw[hR];have a0:Hid (Ae w (.inr (p,35)) (.panicked (Af p 35)) w1):=⟨rfl,a4⟩;have hq:((args.length:Int) == 1)=false:=by rw[beq_eq_false_iff_ne];omega
 have hN:=Ao p 35 w1;generalize args.length=L at *;clear hr hR ht;by_cases h2:L=2
 .have a6:((L:Int) == 2)=true:=by simp[h2]
  clear h2;go_enter func193,ntmps193;go_wp2_with fail;refine hk.mono ?_;rintro e w2 ⟨rfl,a3⟩;obtain rfl:=a3.symm;clear hk;go_wp2_with fail;refine hN.mono ?_;rintro e w3 ⟨rfl,rfl⟩;exact⟨rfl,a0.out⟩
 .have a6:((L:Int) == 2)=false:=by rw[beq_eq_false_iff_ne];omega
  clear h2;go_enter func193,ntmps193;go_wp2_with fail;refine hk.mono ?_;rintro e w2 ⟨rfl,a3⟩;obtain rfl:=a3.symm;clear hk;go_wp2_with fail;refine hN.mono ?_;rintro e w3 ⟨rfl,rfl⟩;exact⟨rfl,a0.out⟩
theorem Rj{x:Px.Ex}(hE:EOk x){k o n:Nat}{t:AQ}(ht:Ck.bkind t=8){c:Ck.Cx}{B:AS}{row:AR}(hc:CkAt w b mb c)(b7:CxOk c)(hr:SlRow B w 8 sl 1 row)(ha:Aj B w [x] row) :
  AA 193 #[pt b 0,.agg (exA k o n t sl p)] w λ e w'=>Ae w (Ck.builtin t p (Ck.cEs c [x])) e w':=by
 obtain⟨w0,w1,c1,bx,l0,l1,ae,c6,c5⟩:=Az w (iv k) (iv o) (iv n) (strV t) (iv 0) sE sl (iv p);have b6:=hr.since (Since.of_below ae);have b3:=ha.since (Since.of_below ae);have be:=hc.keep ae;obtain⟨g,og,cap,ka,oa,na,ta,aa,pa,bv,aw,rfl,bj,hg,rfl,⟨u0,u1,u2,u3,u4,u5,u6,u7⟩,au,ba⟩:=Bd (args:=[x]) b6 b3 rfl;have hC:=hE ka oa na ta aa pa rfl w1 b mb c B bv aw be b7 au ba;obtain⟨cd,bi,rfl,-,-⟩:=au.val;obtain⟨d0,d1,d2,d3,d4,d5,d6,d7,-⟩:=Ac c6;have ah:=G5 b7 (.mk ka oa na ta aa pa);have hk:=Cm t w1;rw[ht] at hk;obtain⟨R,HR⟩:∃R,Hid (Ck.builtin t p (Ck.cEs c [.mk ka oa na ta aa pa])=R):=⟨_,rfl⟩;rw[HR.out];have av:Hid (R=Ck.bind (Ck.cE c (.mk ka oa na ta aa pa)) λ x=>Ck.bind (Ck.need (Ck.sig 8 x.type).2.2 pa 35) λ _=>.inl (.mk 8 0 0 [] 0 (Ck.sig 8 x.type).1 [x])):=by
  show _=_;rw[<-HR.out];unfold Ck.builtin;simp only[ht,Ck.cEs,Ck.arg,getD_cons_zero,getD_cons_succ];rfl
 clear HR ht;generalize Ck.cE c (.mk ka oa na ta aa pa)=C at *;have ci:([.mk ka oa na ta aa pa]:List Px.Ex).length=1:=rfl;clear hc hr ha hE  b6 b3 be au ba;simp only[length_cons,length_nil,Nat.zero_add] at *;have hN:=Av p 35 w1;go_enter func193,ntmps193;go_wp2_with fail;refine hk.mono ?_;rintro e w2 ⟨rfl,bh⟩;obtain rfl:=bh.symm;clear hk;go_wp2_with fail;refine hN.mono ?_;rintro e w3 ⟨rfl,c0⟩;obtain rfl:=c0.symm;clear hN;go_wp2_with fail;refine hC.mono ?_;rintro e w2 hP;clear hC c1 bx;rcases C with⟨k2,o2,n2,t2,s2,y2,a0⟩ | ⟨a,er⟩
 rotate_left
 .obtain⟨hm,aq⟩:=hP;obtain rfl:=hm;have a3:Ae w R (.panicked (Af a er)) w2:=by rw[av.out];exact⟨rfl,ae.trans (aq.mono (by omega))⟩
  exact⟨rfl,a3⟩
 obtain⟨sl2,row2,rfl,am,b0,aq⟩:=hP.inl;have bq:y2.length<=1000:=ah _ rfl;obtain⟨wz,w3,bu,c3,ax,bf,bk,ca,a6,ai⟩:=Bs w2 (iv k2) (iv o2) (iv n2) (strV t2) (iv s2) (strV y2) sl2 (iv 0);obtain⟨a2,c2,rfl,-,-⟩:=am.val;have bn:=aq.size;have lz:w2.heap.size<wz.heap.size:=by omega
 have l3:w2.heap.size<w3.heap.size:=by omega
 clear bf bk;obtain⟨z0,z1,z2,z3,z4,z5,z6,z7,f0,f1,f2,f3,f4,f5,f6,f7⟩:=Ac ai;obtain⟨q0,q1,q2,q3,q4,q5,q6,q7,-⟩:=Ac a6;have ad:Below w1.heap.size w1 w3:=aq.trans (ax.mono bn);have ag:=Jt 8 y2 (by omega) w3;have ab:Hid (R=Ck.bind (Ck.need (Ck.sig 8 y2).2.2 pa 35) λ _=>.inl (.mk 8 0 0 [] 0 (Ck.sig 8 y2).1 [.mk k2 o2 n2 t2 s2 y2 a0])):=av.out;generalize Ck.sig 8 y2=sg at *;obtain⟨af,bl,b4⟩:=sg;simp only at ab ag;replace ag:AA 218 #[iv 8,strV y2] w3 λ e w'=>e=.returned (.tuple #[strV af,strV bl,.bool b4])/\Below w3.heap.size w3 w':=ag
 clear u0 u1 u2 u3 u4 u5 u6 hP av ah bq;go_wp2_with fail;refine ag.mono ?_;rintro e w4 ⟨rfl,al⟩;clear ag bu c3 z0 z1 z2 z3 z4 z5 z6 z7 f0 f1 f2 f3 f4 f5 f6 f7;have a5:Below w1.heap.size w1 w4:=ad.trans (al.mono ad.size);have bt:=ad.size;have cj:=al.size;obtain⟨bc,-⟩:=bcell a5;have cu:=(bc w.heap.size 6 (by omega)).trans d6;have bw:=(bc g _ hg).trans u7;have cq:g<w4.heap.size:=by omega
 have bs:Below w.heap.size w w4:=ae.trans (a5.mono (by omega));cases b4
 .have a3:Hid (Ae w R (.panicked (Af pa 35)) w4):=by rw[ab.out];exact⟨rfl,bs⟩
  have hN:=Ao pa 35 w4;clear ab am b0;go_wp2_with fail;refine hN.mono ?_;rintro e w7 ⟨rfl,rfl⟩;exact⟨rfl,a3.out⟩
 have hN:=Av pa 35 w4;replace ab:Hid (R=.inl (.mk 8 0 0 [] 0 af [.mk k2 o2 n2 t2 s2 y2 a0])):=ab.out;go_wp2_with fail;refine hN.mono ?_;rintro e w7 ⟨rfl,c7⟩;obtain rfl:=c7.symm;clear hN;have a4:=(al.block _ l3).trans a6;obtain⟨co,cc,cv,cr,cg,ch,cl,ct,-⟩:=Ac a4;have c9:w2.heap.size<w4.heap.size:=by omega
 obtain⟨w6,ar⟩:∃w6,w4.alloc (.cells #[iv k2,iv o2,iv n2,strV t2,iv s2,strV y2,.slice a2 a0.length c2,iv 0] 48)=w6:=⟨_,rfl⟩;have b8:Below w4.heap.size w4 w6:=by rw[<-ar];exact (AF _ _).alloc (AD _) _
 have l6:w4.heap.size<w6.heap.size:=by rw[<-ar];simp
 have a8:w6.heap[w4.heap.size]?=some (.cells #[iv k2,iv o2,iv n2,strV t2,iv s2,strV y2,.slice a2 a0.length c2,iv 0] 48 (0,0)):=by rw[<-ar];exact heap_new _ _
 obtain⟨wy,w7,cp,cf,bb,c4,bo,ce,a9,a7⟩:=Bs w6 (iv 8) (iv 0) (iv 0) sE (iv 0) (strV af) (sL w4.heap.size 0 1 1) (iv 0);have ly:w6.heap.size<wy.heap.size:=by omega
 have l7:w6.heap.size<w7.heap.size:=by omega
 clear c4 bo;obtain⟨z0,z1,z2,z3,z4,z5,z6,z7,f0,f1,f2,f3,f4,f5,f6,f7⟩:=Ac a7;have ak:Below w4.heap.size w4 w7:=b8.trans (bb.mono b8.size);have aj:Below w1.heap.size w1 w7:=a5.trans (ak.mono a5.size);have br:=a5.size;have az:Ge (λ j=>w1.heap.size<=j/\j<w6.heap.size) w7 (sL w4.heap.size 0 1 1) [.mk k2 o2 n2 t2 s2 y2 a0]:=by
  have b5:Below w2.heap.size w2 w7:=ax.trans ((al.trans (ak.mono al.size)).mono ax.size);refine⟨[iv k2,iv o2,iv n2,strV t2,iv s2,strV y2,.slice a2 a0.length c2,iv 0],⟨rfl,AJ ⟨w4.heap.size,1,#[iv k2,iv o2,iv n2,strV t2,iv s2,strV y2,.slice a2 a0.length c2,iv 0],rfl,AO _,(bb.block _ l6).trans a8,AD _,by unfold maxLen;omega,rfl,rfl⟩⟩,λ j hj=>?_,?_⟩
  .have:w4.heap.size=j:=by simpa [Value.ownBlock] using hj
   exact⟨by omega,by omega⟩
  .have h1:=Jk (C1 (k:=k2) (o:=o2) (n:=n2) (s:=s2) (t:=t2) (y:=y2) (am.base' (B':=λ j=>From w1.heap.size j/\j<w2.heap.size) (λ j h1 h2=>⟨h1,h2⟩)) (b0.base (B':=λ j=>From w1.heap.size j/\j<w2.heap.size) (λ j h1 h2=>⟨h1,h2⟩)));refine (h1.since ⟨b5.size,λ j hj hl=>b5.block j hl⟩).base (λ j hj _=>⟨⟨hj.1,by have:=hj.2;omega⟩,λ e=>?_⟩);have h3:w4.heap.size=j:=by simpa [Value.ownBlock] using e
   have:=hj.2;omega
 clear bw u7;have b9:Ge (From w1.heap.size) w7 (sL w4.heap.size 0 1 1) [.mk k2 o2 n2 t2 s2 y2 a0]:=az.base (λ j hj _=>hj.1);obtain⟨m0,m1,m2,m3,m4,m5,m6,m7,-⟩:=Ac a9;have ay:=(aj.block _ (by omega)).trans c5;obtain⟨r0,r1,r2,r3,r4,r5,r6,r7,t0,t1,c8,t3,cm,t5,t6,t7⟩:=Ac ay;have bg:w0.heap.size<w7.heap.size:=(AB ay).1;have a3:Ae w R (.returned (.agg #[iv 8,iv 0,iv 0,sE,iv 0,strV af,sL w4.heap.size 0 1 1,iv 0])) (setc8 w7 w0.heap.size (iv 8) (iv 0) (iv 0) sE (iv 0) (strV af) (sL w4.heap.size 0 1 1) (iv 0)):=by
  rw[ab.out];have bp:Since (From w1.heap.size) w7 (setc8 w7 w0.heap.size (iv 8) (iv 0) (iv 0) sE (iv 0) (strV af) (sL w4.heap.size 0 1 1) (iv 0)):=⟨by rw[A1];exact AD _,λ j h3 h4=>A0 (by have:w1.heap.size<=j:=h3;omega) _ _ _ _ _ _ _ _⟩;obtain⟨row,e1,e2⟩:=(b9.since bp).row;exact⟨⟨_,row,rfl,e1.base' (λ j hj _=>by show w.heap.size<=j;have:w1.heap.size<=j:=hj;omega),e2.base (λ j hj _=>by show w.heap.size<=j;have:w1.heap.size<=j:=hj;omega)⟩,Ap (ae.trans (aj.mono (by omega))) (by omega) _ _ _ _ _ _ _ _⟩
 clear ab b9 am b0 ay a9 a7 a8 a4 a6;go_wp2_with fail;exact bodyPost_ret (by simp[results,results193,go_sem,bg,r0,r1,r2,r3,r4,r5,r6,r7]) rfl a3
theorem O6{x:Px.Ex}(hE:EOk x){k o n:Nat}{t:AQ}(ht:Ck.bkind t=11){c:Ck.Cx}{B:AS}{row:AR}(hc:CkAt w b mb c)(b7:CxOk c)(hr:SlRow B w 8 sl 1 row)(ha:Aj B w [x] row) :
  AA 193 #[pt b 0,.agg (exA k o n t sl p)] w λ e w'=>Ae w (Ck.builtin t p (Ck.cEs c [x])) e w':=by
 obtain⟨w0,w1,c1,bx,l0,l1,ae,c6,c5⟩:=Az w (iv k) (iv o) (iv n) (strV t) (iv 0) sE sl (iv p);have b6:=hr.since (Since.of_below ae);have b3:=ha.since (Since.of_below ae);have be:=hc.keep ae;obtain⟨g,og,cap,ka,oa,na,ta,aa,pa,bv,aw,rfl,bj,hg,rfl,⟨u0,u1,u2,u3,u4,u5,u6,u7⟩,au,ba⟩:=Bd (args:=[x]) b6 b3 rfl;have hC:=hE ka oa na ta aa pa rfl w1 b mb c B bv aw be b7 au ba;obtain⟨cd,bi,rfl,-,-⟩:=au.val;obtain⟨d0,d1,d2,d3,d4,d5,d6,d7,-⟩:=Ac c6;have ah:=G5 b7 (.mk ka oa na ta aa pa);have hk:=Cm t w1;rw[ht] at hk;obtain⟨R,HR⟩:∃R,Hid (Ck.builtin t p (Ck.cEs c [.mk ka oa na ta aa pa])=R):=⟨_,rfl⟩;rw[HR.out];have av:Hid (R=Ck.bind (Ck.cE c (.mk ka oa na ta aa pa)) λ x=>Ck.bind (Ck.need (Ck.sig 11 x.type).2.2 pa 35) λ _=>.inl (.mk 11 0 0 [] 0 (Ck.sig 11 x.type).1 [x])):=by
  show _=_;rw[<-HR.out];unfold Ck.builtin;simp only[ht,Ck.cEs,Ck.arg,getD_cons_zero,getD_cons_succ];rfl
 clear HR ht;generalize Ck.cE c (.mk ka oa na ta aa pa)=C at *;have ci:([.mk ka oa na ta aa pa]:List Px.Ex).length=1:=rfl;clear hc hr ha hE  b6 b3 be au ba;simp only[length_cons,length_nil,Nat.zero_add] at *;have hN:=Av p 35 w1;go_enter func193,ntmps193;go_wp2_with fail;refine hk.mono ?_;rintro e w2 ⟨rfl,bh⟩;obtain rfl:=bh.symm;clear hk;go_wp2_with fail;refine hN.mono ?_;rintro e w3 ⟨rfl,c0⟩;obtain rfl:=c0.symm;clear hN;go_wp2_with fail;refine hC.mono ?_;rintro e w2 hP;clear hC c1 bx;rcases C with⟨k2,o2,n2,t2,s2,y2,a0⟩ | ⟨a,er⟩
 rotate_left
 .obtain⟨hm,aq⟩:=hP;obtain rfl:=hm;have a3:Ae w R (.panicked (Af a er)) w2:=by rw[av.out];exact⟨rfl,ae.trans (aq.mono (by omega))⟩
  exact⟨rfl,a3⟩
 obtain⟨sl2,row2,rfl,am,b0,aq⟩:=hP.inl;have bq:y2.length<=1000:=ah _ rfl;obtain⟨wz,w3,bu,c3,ax,bf,bk,ca,a6,ai⟩:=Bs w2 (iv k2) (iv o2) (iv n2) (strV t2) (iv s2) (strV y2) sl2 (iv 0);obtain⟨a2,c2,rfl,-,-⟩:=am.val;have bn:=aq.size;have lz:w2.heap.size<wz.heap.size:=by omega
 have l3:w2.heap.size<w3.heap.size:=by omega
 clear bf bk;obtain⟨z0,z1,z2,z3,z4,z5,z6,z7,f0,f1,f2,f3,f4,f5,f6,f7⟩:=Ac ai;obtain⟨q0,q1,q2,q3,q4,q5,q6,q7,-⟩:=Ac a6;have ad:Below w1.heap.size w1 w3:=aq.trans (ax.mono bn);have ag:=Jt 11 y2 (by omega) w3;have ab:Hid (R=Ck.bind (Ck.need (Ck.sig 11 y2).2.2 pa 35) λ _=>.inl (.mk 11 0 0 [] 0 (Ck.sig 11 y2).1 [.mk k2 o2 n2 t2 s2 y2 a0])):=av.out;generalize Ck.sig 11 y2=sg at *;obtain⟨af,bl,b4⟩:=sg;simp only at ab ag;replace ag:AA 218 #[iv 11,strV y2] w3 λ e w'=>e=.returned (.tuple #[strV af,strV bl,.bool b4])/\Below w3.heap.size w3 w':=ag
 clear u0 u1 u2 u3 u4 u5 u6 hP av ah bq;go_wp2_with fail;refine ag.mono ?_;rintro e w4 ⟨rfl,al⟩;clear ag bu c3 z0 z1 z2 z3 z4 z5 z6 z7 f0 f1 f2 f3 f4 f5 f6 f7;have a5:Below w1.heap.size w1 w4:=ad.trans (al.mono ad.size);have bt:=ad.size;have cj:=al.size;obtain⟨bc,-⟩:=bcell a5;have cu:=(bc w.heap.size 6 (by omega)).trans d6;have bw:=(bc g _ hg).trans u7;have cq:g<w4.heap.size:=by omega
 have bs:Below w.heap.size w w4:=ae.trans (a5.mono (by omega));cases b4
 .have a3:Hid (Ae w R (.panicked (Af pa 35)) w4):=by rw[ab.out];exact⟨rfl,bs⟩
  have hN:=Ao pa 35 w4;clear ab am b0;go_wp2_with fail;refine hN.mono ?_;rintro e w7 ⟨rfl,rfl⟩;exact⟨rfl,a3.out⟩
 have hN:=Av pa 35 w4;replace ab:Hid (R=.inl (.mk 11 0 0 [] 0 af [.mk k2 o2 n2 t2 s2 y2 a0])):=ab.out;go_wp2_with fail;refine hN.mono ?_;rintro e w7 ⟨rfl,c7⟩;obtain rfl:=c7.symm;clear hN;have a4:=(al.block _ l3).trans a6;obtain⟨co,cc,cv,cr,cg,ch,cl,ct,-⟩:=Ac a4;have c9:w2.heap.size<w4.heap.size:=by omega
 obtain⟨w6,ar⟩:∃w6,w4.alloc (.cells #[iv k2,iv o2,iv n2,strV t2,iv s2,strV y2,.slice a2 a0.length c2,iv 0] 48)=w6:=⟨_,rfl⟩;have b8:Below w4.heap.size w4 w6:=by rw[<-ar];exact (AF _ _).alloc (AD _) _
 have l6:w4.heap.size<w6.heap.size:=by rw[<-ar];simp
 have a8:w6.heap[w4.heap.size]?=some (.cells #[iv k2,iv o2,iv n2,strV t2,iv s2,strV y2,.slice a2 a0.length c2,iv 0] 48 (0,0)):=by rw[<-ar];exact heap_new _ _
 obtain⟨wy,w7,cp,cf,bb,c4,bo,ce,a9,a7⟩:=Bs w6 (iv 11) (iv 0) (iv 0) sE (iv 0) (strV af) (sL w4.heap.size 0 1 1) (iv 0);have ly:w6.heap.size<wy.heap.size:=by omega
 have l7:w6.heap.size<w7.heap.size:=by omega
 clear c4 bo;obtain⟨z0,z1,z2,z3,z4,z5,z6,z7,f0,f1,f2,f3,f4,f5,f6,f7⟩:=Ac a7;have ak:Below w4.heap.size w4 w7:=b8.trans (bb.mono b8.size);have aj:Below w1.heap.size w1 w7:=a5.trans (ak.mono a5.size);have br:=a5.size;have az:Ge (λ j=>w1.heap.size<=j/\j<w6.heap.size) w7 (sL w4.heap.size 0 1 1) [.mk k2 o2 n2 t2 s2 y2 a0]:=by
  have b5:Below w2.heap.size w2 w7:=ax.trans ((al.trans (ak.mono al.size)).mono ax.size);refine⟨[iv k2,iv o2,iv n2,strV t2,iv s2,strV y2,.slice a2 a0.length c2,iv 0],⟨rfl,AJ ⟨w4.heap.size,1,#[iv k2,iv o2,iv n2,strV t2,iv s2,strV y2,.slice a2 a0.length c2,iv 0],rfl,AO _,(bb.block _ l6).trans a8,AD _,by unfold maxLen;omega,rfl,rfl⟩⟩,λ j hj=>?_,?_⟩
  .have:w4.heap.size=j:=by simpa [Value.ownBlock] using hj
   exact⟨by omega,by omega⟩
  .have h1:=Jk (C1 (k:=k2) (o:=o2) (n:=n2) (s:=s2) (t:=t2) (y:=y2) (am.base' (B':=λ j=>From w1.heap.size j/\j<w2.heap.size) (λ j h1 h2=>⟨h1,h2⟩)) (b0.base (B':=λ j=>From w1.heap.size j/\j<w2.heap.size) (λ j h1 h2=>⟨h1,h2⟩)));refine (h1.since ⟨b5.size,λ j hj hl=>b5.block j hl⟩).base (λ j hj _=>⟨⟨hj.1,by have:=hj.2;omega⟩,λ e=>?_⟩);have h3:w4.heap.size=j:=by simpa [Value.ownBlock] using e
   have:=hj.2;omega
 clear bw u7;have b9:Ge (From w1.heap.size) w7 (sL w4.heap.size 0 1 1) [.mk k2 o2 n2 t2 s2 y2 a0]:=az.base (λ j hj _=>hj.1);obtain⟨m0,m1,m2,m3,m4,m5,m6,m7,-⟩:=Ac a9;have ay:=(aj.block _ (by omega)).trans c5;obtain⟨r0,r1,r2,r3,r4,r5,r6,r7,t0,t1,c8,t3,cm,t5,t6,t7⟩:=Ac ay;have bg:w0.heap.size<w7.heap.size:=(AB ay).1;have a3:Ae w R (.returned (.agg #[iv 11,iv 0,iv 0,sE,iv 0,strV af,sL w4.heap.size 0 1 1,iv 0])) (setc8 w7 w0.heap.size (iv 11) (iv 0) (iv 0) sE (iv 0) (strV af) (sL w4.heap.size 0 1 1) (iv 0)):=by
  rw[ab.out];have bp:Since (From w1.heap.size) w7 (setc8 w7 w0.heap.size (iv 11) (iv 0) (iv 0) sE (iv 0) (strV af) (sL w4.heap.size 0 1 1) (iv 0)):=⟨by rw[A1];exact AD _,λ j h3 h4=>A0 (by have:w1.heap.size<=j:=h3;omega) _ _ _ _ _ _ _ _⟩;obtain⟨row,e1,e2⟩:=(b9.since bp).row;exact⟨⟨_,row,rfl,e1.base' (λ j hj _=>by show w.heap.size<=j;have:w1.heap.size<=j:=hj;omega),e2.base (λ j hj _=>by show w.heap.size<=j;have:w1.heap.size<=j:=hj;omega)⟩,Ap (ae.trans (aj.mono (by omega))) (by omega) _ _ _ _ _ _ _ _⟩
 clear ab b9 am b0 ay a9 a7 a8 a4 a6;go_wp2_with fail;exact bodyPost_ret (by simp[results,results193,go_sem,bg,r0,r1,r2,r3,r4,r5,r6,r7]) rfl a3
theorem Rk{x y:Px.Ex}(hE:EOk x)(c6:EOk y){k o n:Nat}{t:AQ}(ht:Ck.bkind t=9){c:Ck.Cx}{B:AS}{row:AR}(hc:CkAt w b mb c)(bn:CxOk c)(hr:SlRow B w 8 sl 2 row)(ha:Aj B w [x,y] row) :
  AA 193 #[pt b 0,.agg (exA k o n t sl p)] w λ e w'=>Ae w (Ck.builtin t p (Ck.cEs c [x,y])) e w':=by
 obtain⟨w0,w1,dl,di,l0,l1,au,dx,dv⟩:=Az w (iv k) (iv o) (iv n) (strV t) (iv 0) sE sl (iv p);have bl:=hr.since (Since.of_below au);have bg:=ha.since (Since.of_below au);have bx:=hc.keep au;obtain⟨g,og,cap,ka,oa,na,ta,aa,pa,de,br,rfl,bj,hg,rfl,⟨u0,u1,u2,u3,u4,u5,u6,u7⟩,bi,cc⟩:=Bd (args:=[x,y]) bl bg rfl;obtain⟨g',ec,cr,kb,ob,nb,tb,ab,pb,ei,d8,e,-,-,rfl,⟨v0,v1,v2,v3,v4,v5,v6,v7⟩,bv,ce⟩:=D6 (args:=[_,y]) bl bg rfl;simp only[Value.slice.injEq,Option.some.injEq,Addr.mk.injEq,and_true] at e;obtain⟨⟨rfl,rfl⟩,-,rfl⟩:=e;simp only[length_cons,length_nil,Nat.zero_add] at bj;have hC:=hE ka oa na ta aa pa rfl w1 b mb c B de br bx bn bi cc;have hA:=λ w' (hb:Below w1.heap.size w1 w') ty=>B4 c6 rfl (bx.keep hb) bn (bv.since (Since.of_below hb)) (ce.since (Since.of_below hb)) ty
 obtain⟨ed,cl,rfl,-,-⟩:=bi.val;obtain⟨bt,aw,rfl,-,-⟩:=bv.val;obtain⟨d0,d1,d2,d3,d4,d5,d6,d7,-⟩:=Ac dx;have b3:=G5 bn (.mk ka oa na ta aa pa);have hk:=Cm t w1;rw[ht] at hk;obtain⟨R,HR⟩:∃R,Hid (Ck.builtin t p (Ck.cEs c [.mk ka oa na ta aa pa,.mk kb ob nb tb ab pb])=R):=⟨_,rfl⟩;rw[HR.out];have bq:Hid (R=Ck.bind (Ck.cE c (.mk ka oa na ta aa pa)) λ x=>Ck.bind (Ck.need (Ck.sig 9 x.type).2.2 pa 35) λ _=>Ck.bind (Ck.asked (Ck.cE c (.mk kb ob nb tb ab pb),pb) (Ck.sig 9 x.type).2.1) λ y=>.inl (.mk 9 0 0 [] 0 (Ck.sig 9 x.type).1 [x,y])):=by
  show _=_;rw[<-HR.out];unfold Ck.builtin;simp only[ht,Ck.cEs,Ck.arg,getD_cons_zero,getD_cons_succ];rfl
 clear HR ht;generalize Ck.cE c (.mk ka oa na ta aa pa)=C at *;generalize Ck.cE c (.mk kb ob nb tb ab pb)=C2 at *;have eg:([.mk ka oa na ta aa pa,.mk kb ob nb tb ab pb]:List Px.Ex).length=2:=rfl;clear hc hr ha hE c6 bv ce bl bg bx bi cc;simp only[length_cons,length_nil,Nat.zero_add] at *;have hN:=Av p 35 w1;go_enter func193,ntmps193;go_wp2_with fail;refine hk.mono ?_;rintro e w2 ⟨rfl,cj⟩;obtain rfl:=cj.symm;clear hk;go_wp2_with fail;refine hN.mono ?_;rintro e w3 ⟨rfl,dj⟩;obtain rfl:=dj.symm;clear hN;go_wp2_with fail;refine hC.mono ?_;rintro e w2 hP;clear hC dl di;rcases C with⟨k2,o2,n2,t2,s2,y2,a0⟩ | ⟨a,er⟩
 rotate_left
 .obtain⟨hm,bb⟩:=hP;obtain rfl:=hm;have a3:Ae w R (.panicked (Af a er)) w2:=by rw[bq.out];exact⟨rfl,au.trans (bb.mono (by omega))⟩
  exact⟨rfl,a3⟩
 obtain⟨sl2,row2,rfl,ba,bw,bb⟩:=hP.inl;have cv:y2.length<=1000:=b3 _ rfl;obtain⟨wz,w3,dc,dn,bs,ch,cm,eb,ai,b5⟩:=Bs w2 (iv k2) (iv o2) (iv n2) (strV t2) (iv s2) (strV y2) sl2 (iv 0);obtain⟨a2,c2,rfl,-,-⟩:=ba.val;have co:=bb.size;have lz:w2.heap.size<wz.heap.size:=by omega
 have l3:w2.heap.size<w3.heap.size:=by omega
 clear ch cm;obtain⟨z0,z1,z2,z3,z4,z5,z6,z7,f0,f1,f2,f3,f4,f5,f6,f7⟩:=Ac b5;obtain⟨q0,q1,q2,q3,q4,q5,q6,q7,-⟩:=Ac ai;have ay:Below w1.heap.size w1 w3:=bb.trans (bs.mono co);have az:=Jt 9 y2 (by omega) w3;have aq:Hid (R=Ck.bind (Ck.need (Ck.sig 9 y2).2.2 pa 35) λ _=>Ck.bind (Ck.asked (C2,pb) (Ck.sig 9 y2).2.1) λ y=>.inl (.mk 9 0 0 [] 0 (Ck.sig 9 y2).1 [.mk k2 o2 n2 t2 s2 y2 a0,y])):=bq.out;generalize Ck.sig 9 y2=sg at *;obtain⟨am,b4,c0⟩:=sg;simp only at aq az;replace az:AA 218 #[iv 9,strV y2] w3 λ e w'=>e=.returned (.tuple #[strV am,strV b4,.bool c0])/\Below w3.heap.size w3 w':=az
 clear u0 u1 u2 u3 u4 u5 u6 hP bq b3 cv;go_wp2_with fail;refine az.mono ?_;rintro e w4 ⟨rfl,b9⟩;clear az dc dn z0 z1 z2 z3 z4 z5 z6 z7 f0 f1 f2 f3 f4 f5 f6 f7;have ah:Below w1.heap.size w1 w4:=ay.trans (b9.mono ay.size);have cz:=ay.size;have eh:=b9.size;obtain⟨bc,-⟩:=bcell ah;have dz:=(bc w.heap.size 6 (by omega)).trans d6;have dh:=(bc g _ hg).trans u7;have el:g<w4.heap.size:=by omega
 have cy:Below w.heap.size w w4:=au.trans (ah.mono (by omega));cases c0
 .have a3:Hid (Ae w R (.panicked (Af pa 35)) w4):=by rw[aq.out];exact⟨rfl,cy⟩
  have hN:=Ao pa 35 w4;clear aq ba bw;go_wp2_with fail;refine hN.mono ?_;rintro e w7 ⟨rfl,rfl⟩;exact⟨rfl,a3.out⟩
 have hN:=Av pa 35 w4;replace aq:Hid (R=Ck.bind (Ck.asked (C2,pb) b4) λ y=>.inl (.mk 9 0 0 [] 0 am [.mk k2 o2 n2 t2 s2 y2 a0,y])):=aq.out;go_wp2_with fail;refine hN.mono ?_;rintro e w7 ⟨rfl,dy⟩;obtain rfl:=dy.symm;clear hN;have ae:=(b9.block _ l3).trans ai;obtain⟨dr,cp,e8,du,dd,df,dm,dw,-⟩:=Ac ae;have ea:w2.heap.size<w4.heap.size:=by omega
 obtain⟨w6,bh⟩:∃w6,w4.alloc (.cells #[iv k2,iv o2,iv n2,strV t2,iv s2,strV y2,.slice a2 a0.length c2,iv 0] 48)=w6:=⟨_,rfl⟩;have ca:Below w4.heap.size w4 w6:=by rw[<-bh];exact (AF _ _).alloc (AD _) _
 have l6:w4.heap.size<w6.heap.size:=by rw[<-bh];simp
 have ar:w6.heap[w4.heap.size]?=some (.cells #[iv k2,iv o2,iv n2,strV t2,iv s2,strV y2,.slice a2 a0.length c2,iv 0] 48 (0,0)):=by rw[<-bh];exact heap_new _ _
 obtain⟨wy,w7,ds,db,cf,dq,cq,ee,aj,al⟩:=Bs w6 (iv 9) (iv 0) (iv 0) sE (iv 0) (strV am) (sL w4.heap.size 0 1 1) (iv 0);have ly:w6.heap.size<wy.heap.size:=by omega
 have l7:w6.heap.size<w7.heap.size:=by omega
 clear dq cq;obtain⟨z0,z1,z2,z3,z4,z5,z6,z7,f0,f1,f2,f3,f4,f5,f6,f7⟩:=Ac al;have av:Below w4.heap.size w4 w7:=ca.trans (cf.mono ca.size);have a8:Below w1.heap.size w1 w7:=ah.trans (av.mono ah.size);have cw:=ah.size;have b6:Ge (λ j=>w1.heap.size<=j/\j<w6.heap.size) w7 (sL w4.heap.size 0 1 1) [.mk k2 o2 n2 t2 s2 y2 a0]:=by
  have c3:Below w2.heap.size w2 w7:=bs.trans ((b9.trans (av.mono b9.size)).mono bs.size);refine⟨[iv k2,iv o2,iv n2,strV t2,iv s2,strV y2,.slice a2 a0.length c2,iv 0],⟨rfl,AJ ⟨w4.heap.size,1,#[iv k2,iv o2,iv n2,strV t2,iv s2,strV y2,.slice a2 a0.length c2,iv 0],rfl,AO _,(cf.block _ l6).trans ar,AD _,by unfold maxLen;omega,rfl,rfl⟩⟩,λ j hj=>?_,?_⟩
  .have:w4.heap.size=j:=by simpa [Value.ownBlock] using hj
   exact⟨by omega,by omega⟩
  .have h1:=Jk (C1 (k:=k2) (o:=o2) (n:=n2) (s:=s2) (t:=t2) (y:=y2) (ba.base' (B':=λ j=>From w1.heap.size j/\j<w2.heap.size) (λ j h1 h2=>⟨h1,h2⟩)) (bw.base (B':=λ j=>From w1.heap.size j/\j<w2.heap.size) (λ j h1 h2=>⟨h1,h2⟩)));refine (h1.since ⟨c3.size,λ j hj hl=>c3.block j hl⟩).base (λ j hj _=>⟨⟨hj.1,by have:=hj.2;omega⟩,λ e=>?_⟩);have h3:w4.heap.size=j:=by simpa [Value.ownBlock] using e
   have:=hj.2;omega
 clear dh u7;obtain⟨m0,m1,m2,m3,m4,m5,m6,m7,-⟩:=Ac aj;have c7:=hA w7.drew a8.drew b4;generalize Ck.asked (C2,pb) b4=D at *;have hS:∀w',Below w7.heap.size w7 w'->(w'.cell? ⟨w6.heap.size,6,none⟩=some (sL w4.heap.size 0 1 1)/\w'.cell? ⟨w.heap.size,6,none⟩=some (sL g og 2 cap)/\w'.cell? ⟨g,og+8,none⟩=some (iv kb)/\w'.cell? ⟨g,og+9,none⟩=some (iv ob)/\w'.cell? ⟨g,og+10,none⟩=some (iv nb)/\w'.cell? ⟨g,og+11,none⟩=some (strV tb)/\w'.cell? ⟨g,og+12,none⟩=some (iv 0)/\w'.cell? ⟨g,og+13,none⟩=some sE/\w'.cell? ⟨g,og+14,none⟩=some (.slice bt ab.length aw)/\w'.cell? ⟨g,og+15,none⟩=some (iv pb)):=λ w' hb=>by
  obtain⟨bd,-⟩:=bcell (a8.trans (hb.mono a8.size));obtain⟨be,-⟩:=bcell hb;exact⟨(be _ _ l7).trans m6,(bd _ _ (by omega)).trans d6,(bd _ _ hg).trans v0,(bd _ _ hg).trans v1,(bd _ _ hg).trans v2,(bd _ _ hg).trans v3,(bd _ _ hg).trans v4,(bd _ _ hg).trans v5,(bd _ _ hg).trans v6,(bd _ _ hg).trans v7⟩
 go_wp2_with fail
 refine Vv.wpE_begin (S:=λ w'=>w'.cell? ⟨w6.heap.size,6,none⟩=some (sL w4.heap.size 0 1 1)/\w'.cell? ⟨w.heap.size,6,none⟩=some (sL g og 2 cap)/\w'.cell? ⟨g,og+8,none⟩=some (iv kb)/\w'.cell? ⟨g,og+9,none⟩=some (iv ob)/\w'.cell? ⟨g,og+10,none⟩=some (iv nb)/\w'.cell? ⟨g,og+11,none⟩=some (strV tb)/\w'.cell? ⟨g,og+12,none⟩=some (iv 0)/\w'.cell? ⟨g,og+13,none⟩=some sE/\w'.cell? ⟨g,og+14,none⟩=some (.slice bt ab.length aw)/\w'.cell? ⟨g,og+15,none⟩=some (iv pb)) (N:=λ j=>decide (j<10)) (by kernel_rfl) ?_;have ak:=hS w7.drew (AF _ _).drew;refine Aa 68 [1,10,11,12] 0 (pt w6.heap.size 6) ak ?_
 try simp only[aP]
 refine Aa 69 [10,11,12] 1 (sL w4.heap.size 0 1 1) ak ?_
 try simp only[aP]
 refine Aa 70 [8,9,10,11,12] 2 (pt b 0) ak ?_
 try simp only[aP]
 refine Aa 71 [4,5,6,8,9,10,11,12] 3 (pt w.heap.size 6) ak ?_
 try simp only[aP]
 refine Aa 72 [5,6,8,9,10,11,12] 4 (sL g og 2 cap) ak ?_
 try simp only[aP]
 refine Aa 73 [6,8,9,10,11,12] 5 (pt g (og+8)) ak ?_
 try simp only[aP]
 refine Aa 74 [8,9,10,11,12] 6 (.agg (exA kb ob nb tb (.slice bt ab.length aw) pb)) ak ?_
 try simp only[aP]
 refine Aa 75 [8,9,10,11,12] 7 (strV b4) ak ?_
 try simp only[aP]
 refine Ah 8 λ K hK=>?_
 go_simp;refine c7.mono ?_;rintro e w5 hP;replace hP:Ae w7 D e w5:=hP.of (AF _ _).drew;clear c7 hA d0 d1 d2 d3 d4 d5 d6 d7 dz v0 v1 v2 v3 v4 v5 v6 v7 q0 q1 q2 q3 q4 q5 q6 q7 dr cp e8 du dd df dm dw bc ak m0 m1 m2 m3 m4 m5 m6 m7 ds db z0 z1 z2 z3 z4 z5 z6 z7 f0 f1 f2 f3 f4 f5 f6 f7;rcases D with⟨k4,o4,n4,t4,s4,y4,a5⟩ | ⟨a,er⟩
 rotate_left
 .obtain⟨hm,b7⟩:=hP;obtain rfl:=hm;have a3:Ae w R (.panicked (Af a er)) w5:=by rw[aq.out];exact⟨rfl,au.trans ((a8.trans (b7.mono a8.size)).mono (by omega))⟩
  exact⟨rfl,a3⟩
 obtain⟨ef,dk,rfl,bu,c1,b7⟩:=hP.inl;obtain⟨a4,c4,rfl,-,-⟩:=bu.val;have ct:=b7.size;refine hK _ _ (λ _=>hS w5 b7) ?_;clear hK K hP
 try simp only[aP]
 obtain⟨w8,bf⟩:∃w8,w5.alloc (.cells #[iv k4,iv o4,iv n4,strV t4,iv s4,strV y4,.slice a4 a5.length c4,iv 0] 48)=w8:=⟨_,rfl⟩;have bo:Below w5.heap.size w5 w8:=by rw[<-bf];exact (AF _ _).alloc (AD _) _
 have l8:w5.heap.size<w8.heap.size:=by rw[<-bf];simp
 have b0:w8.heap[w5.heap.size]?=some (.cells #[iv k4,iv o4,iv n4,strV t4,iv s4,strV y4,.slice a4 a5.length c4,iv 0] 48 (0,0)):=by rw[<-bf];exact heap_new _ _
 have a9:Below w7.heap.size w7 w8:=b7.trans (bo.mono ct);refine Ah 9 λ K hK=>?_
 go_simp;refine hK _ _ (λ _=>hS w8 a9) ?_;clear hK K
 try simp only[aP]
 have d9:=a8.size;have c5:Ge (λ j=>w1.heap.size<=j/\j≠w6.heap.size) w8 (sL w4.heap.size 0 1 1) [.mk k2 o2 n2 t2 s2 y2 a0]:=(b6.base (λ j hj _=>⟨hj.1,by omega⟩)).below a9;have cd:Cl (λ j=>(w1.heap.size<=j/\j≠w6.heap.size)/\(sL w4.heap.size 0 1 1).ownBlock≠some j) w8 (.mk k4 o4 n4 t4 s4 y4 a5) [iv k4,iv o4,iv n4,strV t4,iv s4,strV y4,.slice a4 a5.length c4,iv 0]:=by
  have hw:∀j,From w7.heap.size j->j<w8.heap.size->(w1.heap.size<=j/\j≠w6.heap.size)/\(sL w4.heap.size 0 1 1).ownBlock≠some j:=λ j hj _=>by
   have h1:w7.heap.size<=j:=hj;have h2:=av.size;refine⟨⟨by omega,by omega⟩,λ e=>?_⟩;have h3:w4.heap.size=j:=by simpa [Value.ownBlock] using e
   omega
  exact C1 ((bu.since (Since.of_below bo)).base' hw) ((c1.since (Since.of_below bo)).base hw)
 obtain⟨g9,c9,w9,cg,c8,bp,ci,em,da⟩:=c5.push (ad:=⟨w5.heap.size,0,none⟩) (cs:=[iv k4,iv o4,iv n4,strV t4,iv s4,strV y4,.slice a4 a5.length c4,iv 0]) (λ j u hj=>by
  have h1:w8.cell? ⟨w5.heap.size,j,none⟩=some u:=by rw[Bf b0,List.getElem?_toArray];exact hj
  by_cases h0:j=0
  .subst h0;simpa [Addr.add] using h1
  .simpa [Addr.add,h0] using h1) cd (by simp) (λ j hj=>by have:=a9.size;exact⟨by omega,by omega⟩) 1 44
 replace bp:Below w1.heap.size w8 w9:=bp _ (by have:=a9.size;omega) (λ j hj=>hj.1);have a6:w9.heap[w6.heap.size]?=some (.cells #[iv 9,iv 0,iv 0,sE,iv 0,strV am,sL w4.heap.size 0 1 1,iv 0] 48 (0,0)):=by
  rw[ci _ (by have:=a9.size;omega) (by simp[Value.ownBlock];omega),a9.block _ l7];exact aj
 refine Ah 10 λ K hK=>?_
 refine Cc _ _ 44 rfl _ _ rfl rfl _ _ cg ?_;refine hK _ _ (λ h=>by cases h) ?_;clear hK K
 try simp only[aP]
 obtain⟨e0,e1,e2,e3,e4,e5,e6,e7,h0,h1,h2,h3,h4,h5,h6,h7⟩:=Ac a6;have ek:w6.heap.size<w9.heap.size:=(AB a6).1;refine Ah 11 λ K hK=>?_
 go_simp;refine hK _ _ (λ h=>by cases h) ?_;clear hK K
 try simp only[aP]
 refine Ah 12 λ K hK=>?_
 go_simp;refine hK _ _ (λ h=>by cases h) ?_;clear hK K
 try simp only[aP]
 refine Vv.wpE_done (by kernel_rfl) ?_;obtain⟨w10,ag⟩:∃w10,w9.setCell ⟨w6.heap.size,6,none⟩ (sL g9 0 2 c9)=w10:=⟨_,rfl⟩;have a7:w10.heap[w6.heap.size]?=some (.cells #[iv 9,iv 0,iv 0,sE,iv 0,strV am,sL g9 0 2 c9,iv 0] 48 (0,0)):=by rw[<-ag];simp[World.setCell,Array.getElem?_modify,a6]
 have af:Below w1.heap.size w1 w10:=by rw[<-ag];exact ((a8.trans (a9.mono (by omega))).trans bp).setCell (p:=⟨w6.heap.size,6,none⟩) (by show w1.heap.size<=w6.heap.size;omega) _
 have b8:Ge (λ j=>w1.heap.size<=j/\j≠w6.heap.size) w10 (sL g9 0 2 c9) [.mk k2 o2 n2 t2 s2 y2 a0,.mk k4 o4 n4 t4 s4 y4 a5]:=by
  rw[<-ag];exact c8.since ⟨by simp[World.setCell],λ j hj _=>AG _ _ _ _ hj.2⟩
 obtain⟨m0,m1,m2,m3,m4,m5,m6,m7,-⟩:=Ac a7;have dt:w6.heap.size<w10.heap.size:=(AB a7).1;have ax:=(af.block _ (by omega)).trans dv;obtain⟨r0,r1,r2,r3,r4,r5,r6,r7,t0,t1,e9,t3,ej,t5,t6,t7⟩:=Ac ax;have bk:w0.heap.size<w10.heap.size:=(AB ax).1;have a3:Ae w R (.returned (.agg #[iv 9,iv 0,iv 0,sE,iv 0,strV am,sL g9 0 2 c9,iv 0])) (setc8 w10 w0.heap.size (iv 9) (iv 0) (iv 0) sE (iv 0) (strV am) (sL g9 0 2 c9) (iv 0)):=by
  rw[aq.out];have cu:Since (λ j=>w1.heap.size<=j/\j≠w6.heap.size) w10 (setc8 w10 w0.heap.size (iv 9) (iv 0) (iv 0) sE (iv 0) (strV am) (sL g9 0 2 c9) (iv 0)):=⟨by rw[A1];exact AD _,λ j h3 h4=>A0 (by have:=h3.1;omega) _ _ _ _ _ _ _ _⟩;obtain⟨row,e1,e2⟩:=(b8.since cu).row;exact⟨⟨_,row,rfl,e1.base' (λ j hj _=>by show w.heap.size<=j;have:=hj.1;omega),e2.base (λ j hj _=>by show w.heap.size<=j;have:=hj.1;omega)⟩,Ap (au.trans (af.mono (by omega))) (by omega) _ _ _ _ _ _ _ _⟩
 rw[ag];clear aq b6 c5 c8 b8 ba bw bu c1 ax a7 a6 aj al ar ae ai hS bf ag cg cd;simp only[Exit.inBlock,Exit.then];refine ‹∀(a:Act) (w:World),_->_› _ _ ?_;go_wp2_with fail;exact bodyPost_ret (by simp[results,results193,go_sem,bk,r0,r1,r2,r3,r4,r5,r6,r7]) rfl a3
theorem O7{x y:Px.Ex}(hE:EOk x)(c6:EOk y){k o n:Nat}{t:AQ}(ht:Ck.bkind t=10){c:Ck.Cx}{B:AS}{row:AR}(hc:CkAt w b mb c)(bn:CxOk c)(hr:SlRow B w 8 sl 2 row)(ha:Aj B w [x,y] row) :
  AA 193 #[pt b 0,.agg (exA k o n t sl p)] w λ e w'=>Ae w (Ck.builtin t p (Ck.cEs c [x,y])) e w':=by
 obtain⟨w0,w1,dl,di,l0,l1,au,dx,dv⟩:=Az w (iv k) (iv o) (iv n) (strV t) (iv 0) sE sl (iv p);have bl:=hr.since (Since.of_below au);have bg:=ha.since (Since.of_below au);have bx:=hc.keep au;obtain⟨g,og,cap,ka,oa,na,ta,aa,pa,de,br,rfl,bj,hg,rfl,⟨u0,u1,u2,u3,u4,u5,u6,u7⟩,bi,cc⟩:=Bd (args:=[x,y]) bl bg rfl;obtain⟨g',ec,cr,kb,ob,nb,tb,ab,pb,ei,d8,e,-,-,rfl,⟨v0,v1,v2,v3,v4,v5,v6,v7⟩,bv,ce⟩:=D6 (args:=[_,y]) bl bg rfl;simp only[Value.slice.injEq,Option.some.injEq,Addr.mk.injEq,and_true] at e;obtain⟨⟨rfl,rfl⟩,-,rfl⟩:=e;simp only[length_cons,length_nil,Nat.zero_add] at bj;have hC:=hE ka oa na ta aa pa rfl w1 b mb c B de br bx bn bi cc;have hA:=λ w' (hb:Below w1.heap.size w1 w') ty=>B4 c6 rfl (bx.keep hb) bn (bv.since (Since.of_below hb)) (ce.since (Since.of_below hb)) ty
 obtain⟨ed,cl,rfl,-,-⟩:=bi.val;obtain⟨bt,aw,rfl,-,-⟩:=bv.val;obtain⟨d0,d1,d2,d3,d4,d5,d6,d7,-⟩:=Ac dx;have b3:=G5 bn (.mk ka oa na ta aa pa);have hk:=Cm t w1;rw[ht] at hk;obtain⟨R,HR⟩:∃R,Hid (Ck.builtin t p (Ck.cEs c [.mk ka oa na ta aa pa,.mk kb ob nb tb ab pb])=R):=⟨_,rfl⟩;rw[HR.out];have bq:Hid (R=Ck.bind (Ck.cE c (.mk ka oa na ta aa pa)) λ x=>Ck.bind (Ck.need (Ck.sig 10 x.type).2.2 pa 35) λ _=>Ck.bind (Ck.asked (Ck.cE c (.mk kb ob nb tb ab pb),pb) (Ck.sig 10 x.type).2.1) λ y=>.inl (.mk 10 0 0 [] 0 (Ck.sig 10 x.type).1 [x,y])):=by
  show _=_;rw[<-HR.out];unfold Ck.builtin;simp only[ht,Ck.cEs,Ck.arg,getD_cons_zero,getD_cons_succ];rfl
 clear HR ht;generalize Ck.cE c (.mk ka oa na ta aa pa)=C at *;generalize Ck.cE c (.mk kb ob nb tb ab pb)=C2 at *;have eg:([.mk ka oa na ta aa pa,.mk kb ob nb tb ab pb]:List Px.Ex).length=2:=rfl;clear hc hr ha hE c6 bv ce bl bg bx bi cc;simp only[length_cons,length_nil,Nat.zero_add] at *;have hN:=Av p 35 w1;go_enter func193,ntmps193;go_wp2_with fail;refine hk.mono ?_;rintro e w2 ⟨rfl,cj⟩;obtain rfl:=cj.symm;clear hk;go_wp2_with fail;refine hN.mono ?_;rintro e w3 ⟨rfl,dj⟩;obtain rfl:=dj.symm;clear hN;go_wp2_with fail;refine hC.mono ?_;rintro e w2 hP;clear hC dl di;rcases C with⟨k2,o2,n2,t2,s2,y2,a0⟩ | ⟨a,er⟩
 rotate_left
 .obtain⟨hm,bb⟩:=hP;obtain rfl:=hm;have a3:Ae w R (.panicked (Af a er)) w2:=by rw[bq.out];exact⟨rfl,au.trans (bb.mono (by omega))⟩
  exact⟨rfl,a3⟩
 obtain⟨sl2,row2,rfl,ba,bw,bb⟩:=hP.inl;have cv:y2.length<=1000:=b3 _ rfl;obtain⟨wz,w3,dc,dn,bs,ch,cm,eb,ai,b5⟩:=Bs w2 (iv k2) (iv o2) (iv n2) (strV t2) (iv s2) (strV y2) sl2 (iv 0);obtain⟨a2,c2,rfl,-,-⟩:=ba.val;have co:=bb.size;have lz:w2.heap.size<wz.heap.size:=by omega
 have l3:w2.heap.size<w3.heap.size:=by omega
 clear ch cm;obtain⟨z0,z1,z2,z3,z4,z5,z6,z7,f0,f1,f2,f3,f4,f5,f6,f7⟩:=Ac b5;obtain⟨q0,q1,q2,q3,q4,q5,q6,q7,-⟩:=Ac ai;have ay:Below w1.heap.size w1 w3:=bb.trans (bs.mono co);have az:=Jt 10 y2 (by omega) w3;have aq:Hid (R=Ck.bind (Ck.need (Ck.sig 10 y2).2.2 pa 35) λ _=>Ck.bind (Ck.asked (C2,pb) (Ck.sig 10 y2).2.1) λ y=>.inl (.mk 10 0 0 [] 0 (Ck.sig 10 y2).1 [.mk k2 o2 n2 t2 s2 y2 a0,y])):=bq.out;generalize Ck.sig 10 y2=sg at *;obtain⟨am,b4,c0⟩:=sg;simp only at aq az;replace az:AA 218 #[iv 10,strV y2] w3 λ e w'=>e=.returned (.tuple #[strV am,strV b4,.bool c0])/\Below w3.heap.size w3 w':=az
 clear u0 u1 u2 u3 u4 u5 u6 hP bq b3 cv;go_wp2_with fail;refine az.mono ?_;rintro e w4 ⟨rfl,b9⟩;clear az dc dn z0 z1 z2 z3 z4 z5 z6 z7 f0 f1 f2 f3 f4 f5 f6 f7;have ah:Below w1.heap.size w1 w4:=ay.trans (b9.mono ay.size);have cz:=ay.size;have eh:=b9.size;obtain⟨bc,-⟩:=bcell ah;have dz:=(bc w.heap.size 6 (by omega)).trans d6;have dh:=(bc g _ hg).trans u7;have el:g<w4.heap.size:=by omega
 have cy:Below w.heap.size w w4:=au.trans (ah.mono (by omega));cases c0
 .have a3:Hid (Ae w R (.panicked (Af pa 35)) w4):=by rw[aq.out];exact⟨rfl,cy⟩
  have hN:=Ao pa 35 w4;clear aq ba bw;go_wp2_with fail;refine hN.mono ?_;rintro e w7 ⟨rfl,rfl⟩;exact⟨rfl,a3.out⟩
 have hN:=Av pa 35 w4;replace aq:Hid (R=Ck.bind (Ck.asked (C2,pb) b4) λ y=>.inl (.mk 10 0 0 [] 0 am [.mk k2 o2 n2 t2 s2 y2 a0,y])):=aq.out;go_wp2_with fail;refine hN.mono ?_;rintro e w7 ⟨rfl,dy⟩;obtain rfl:=dy.symm;clear hN;have ae:=(b9.block _ l3).trans ai;obtain⟨dr,cp,e8,du,dd,df,dm,dw,-⟩:=Ac ae;have ea:w2.heap.size<w4.heap.size:=by omega
 obtain⟨w6,bh⟩:∃w6,w4.alloc (.cells #[iv k2,iv o2,iv n2,strV t2,iv s2,strV y2,.slice a2 a0.length c2,iv 0] 48)=w6:=⟨_,rfl⟩;have ca:Below w4.heap.size w4 w6:=by rw[<-bh];exact (AF _ _).alloc (AD _) _
 have l6:w4.heap.size<w6.heap.size:=by rw[<-bh];simp
 have ar:w6.heap[w4.heap.size]?=some (.cells #[iv k2,iv o2,iv n2,strV t2,iv s2,strV y2,.slice a2 a0.length c2,iv 0] 48 (0,0)):=by rw[<-bh];exact heap_new _ _
 obtain⟨wy,w7,ds,db,cf,dq,cq,ee,aj,al⟩:=Bs w6 (iv 10) (iv 0) (iv 0) sE (iv 0) (strV am) (sL w4.heap.size 0 1 1) (iv 0);have ly:w6.heap.size<wy.heap.size:=by omega
 have l7:w6.heap.size<w7.heap.size:=by omega
 clear dq cq;obtain⟨z0,z1,z2,z3,z4,z5,z6,z7,f0,f1,f2,f3,f4,f5,f6,f7⟩:=Ac al;have av:Below w4.heap.size w4 w7:=ca.trans (cf.mono ca.size);have a8:Below w1.heap.size w1 w7:=ah.trans (av.mono ah.size);have cw:=ah.size;have b6:Ge (λ j=>w1.heap.size<=j/\j<w6.heap.size) w7 (sL w4.heap.size 0 1 1) [.mk k2 o2 n2 t2 s2 y2 a0]:=by
  have c3:Below w2.heap.size w2 w7:=bs.trans ((b9.trans (av.mono b9.size)).mono bs.size);refine⟨[iv k2,iv o2,iv n2,strV t2,iv s2,strV y2,.slice a2 a0.length c2,iv 0],⟨rfl,AJ ⟨w4.heap.size,1,#[iv k2,iv o2,iv n2,strV t2,iv s2,strV y2,.slice a2 a0.length c2,iv 0],rfl,AO _,(cf.block _ l6).trans ar,AD _,by unfold maxLen;omega,rfl,rfl⟩⟩,λ j hj=>?_,?_⟩
  .have:w4.heap.size=j:=by simpa [Value.ownBlock] using hj
   exact⟨by omega,by omega⟩
  .have h1:=Jk (C1 (k:=k2) (o:=o2) (n:=n2) (s:=s2) (t:=t2) (y:=y2) (ba.base' (B':=λ j=>From w1.heap.size j/\j<w2.heap.size) (λ j h1 h2=>⟨h1,h2⟩)) (bw.base (B':=λ j=>From w1.heap.size j/\j<w2.heap.size) (λ j h1 h2=>⟨h1,h2⟩)));refine (h1.since ⟨c3.size,λ j hj hl=>c3.block j hl⟩).base (λ j hj _=>⟨⟨hj.1,by have:=hj.2;omega⟩,λ e=>?_⟩);have h3:w4.heap.size=j:=by simpa [Value.ownBlock] using e
   have:=hj.2;omega
 clear dh u7;obtain⟨m0,m1,m2,m3,m4,m5,m6,m7,-⟩:=Ac aj;have c7:=hA w7.drew a8.drew b4;generalize Ck.asked (C2,pb) b4=D at *;have hS:∀w',Below w7.heap.size w7 w'->(w'.cell? ⟨w6.heap.size,6,none⟩=some (sL w4.heap.size 0 1 1)/\w'.cell? ⟨w.heap.size,6,none⟩=some (sL g og 2 cap)/\w'.cell? ⟨g,og+8,none⟩=some (iv kb)/\w'.cell? ⟨g,og+9,none⟩=some (iv ob)/\w'.cell? ⟨g,og+10,none⟩=some (iv nb)/\w'.cell? ⟨g,og+11,none⟩=some (strV tb)/\w'.cell? ⟨g,og+12,none⟩=some (iv 0)/\w'.cell? ⟨g,og+13,none⟩=some sE/\w'.cell? ⟨g,og+14,none⟩=some (.slice bt ab.length aw)/\w'.cell? ⟨g,og+15,none⟩=some (iv pb)):=λ w' hb=>by
  obtain⟨bd,-⟩:=bcell (a8.trans (hb.mono a8.size));obtain⟨be,-⟩:=bcell hb;exact⟨(be _ _ l7).trans m6,(bd _ _ (by omega)).trans d6,(bd _ _ hg).trans v0,(bd _ _ hg).trans v1,(bd _ _ hg).trans v2,(bd _ _ hg).trans v3,(bd _ _ hg).trans v4,(bd _ _ hg).trans v5,(bd _ _ hg).trans v6,(bd _ _ hg).trans v7⟩
 go_wp2_with fail
 refine Vv.wpE_begin (S:=λ w'=>w'.cell? ⟨w6.heap.size,6,none⟩=some (sL w4.heap.size 0 1 1)/\w'.cell? ⟨w.heap.size,6,none⟩=some (sL g og 2 cap)/\w'.cell? ⟨g,og+8,none⟩=some (iv kb)/\w'.cell? ⟨g,og+9,none⟩=some (iv ob)/\w'.cell? ⟨g,og+10,none⟩=some (iv nb)/\w'.cell? ⟨g,og+11,none⟩=some (strV tb)/\w'.cell? ⟨g,og+12,none⟩=some (iv 0)/\w'.cell? ⟨g,og+13,none⟩=some sE/\w'.cell? ⟨g,og+14,none⟩=some (.slice bt ab.length aw)/\w'.cell? ⟨g,og+15,none⟩=some (iv pb)) (N:=λ j=>decide (j<10)) (by kernel_rfl) ?_;have ak:=hS w7.drew (AF _ _).drew;refine Aa 68 [1,10,11,12] 0 (pt w6.heap.size 6) ak ?_
 try simp only[aP]
 refine Aa 69 [10,11,12] 1 (sL w4.heap.size 0 1 1) ak ?_
 try simp only[aP]
 refine Aa 70 [8,9,10,11,12] 2 (pt b 0) ak ?_
 try simp only[aP]
 refine Aa 71 [4,5,6,8,9,10,11,12] 3 (pt w.heap.size 6) ak ?_
 try simp only[aP]
 refine Aa 72 [5,6,8,9,10,11,12] 4 (sL g og 2 cap) ak ?_
 try simp only[aP]
 refine Aa 73 [6,8,9,10,11,12] 5 (pt g (og+8)) ak ?_
 try simp only[aP]
 refine Aa 74 [8,9,10,11,12] 6 (.agg (exA kb ob nb tb (.slice bt ab.length aw) pb)) ak ?_
 try simp only[aP]
 refine Aa 75 [8,9,10,11,12] 7 (strV b4) ak ?_
 try simp only[aP]
 refine Ah 8 λ K hK=>?_
 go_simp;refine c7.mono ?_;rintro e w5 hP;replace hP:Ae w7 D e w5:=hP.of (AF _ _).drew;clear c7 hA d0 d1 d2 d3 d4 d5 d6 d7 dz v0 v1 v2 v3 v4 v5 v6 v7 q0 q1 q2 q3 q4 q5 q6 q7 dr cp e8 du dd df dm dw bc ak m0 m1 m2 m3 m4 m5 m6 m7 ds db z0 z1 z2 z3 z4 z5 z6 z7 f0 f1 f2 f3 f4 f5 f6 f7;rcases D with⟨k4,o4,n4,t4,s4,y4,a5⟩ | ⟨a,er⟩
 rotate_left
 .obtain⟨hm,b7⟩:=hP;obtain rfl:=hm;have a3:Ae w R (.panicked (Af a er)) w5:=by rw[aq.out];exact⟨rfl,au.trans ((a8.trans (b7.mono a8.size)).mono (by omega))⟩
  exact⟨rfl,a3⟩
 obtain⟨ef,dk,rfl,bu,c1,b7⟩:=hP.inl;obtain⟨a4,c4,rfl,-,-⟩:=bu.val;have ct:=b7.size;refine hK _ _ (λ _=>hS w5 b7) ?_;clear hK K hP
 try simp only[aP]
 obtain⟨w8,bf⟩:∃w8,w5.alloc (.cells #[iv k4,iv o4,iv n4,strV t4,iv s4,strV y4,.slice a4 a5.length c4,iv 0] 48)=w8:=⟨_,rfl⟩;have bo:Below w5.heap.size w5 w8:=by rw[<-bf];exact (AF _ _).alloc (AD _) _
 have l8:w5.heap.size<w8.heap.size:=by rw[<-bf];simp
 have b0:w8.heap[w5.heap.size]?=some (.cells #[iv k4,iv o4,iv n4,strV t4,iv s4,strV y4,.slice a4 a5.length c4,iv 0] 48 (0,0)):=by rw[<-bf];exact heap_new _ _
 have a9:Below w7.heap.size w7 w8:=b7.trans (bo.mono ct);refine Ah 9 λ K hK=>?_
 go_simp;refine hK _ _ (λ _=>hS w8 a9) ?_;clear hK K
 try simp only[aP]
 have d9:=a8.size;have c5:Ge (λ j=>w1.heap.size<=j/\j≠w6.heap.size) w8 (sL w4.heap.size 0 1 1) [.mk k2 o2 n2 t2 s2 y2 a0]:=(b6.base (λ j hj _=>⟨hj.1,by omega⟩)).below a9;have cd:Cl (λ j=>(w1.heap.size<=j/\j≠w6.heap.size)/\(sL w4.heap.size 0 1 1).ownBlock≠some j) w8 (.mk k4 o4 n4 t4 s4 y4 a5) [iv k4,iv o4,iv n4,strV t4,iv s4,strV y4,.slice a4 a5.length c4,iv 0]:=by
  have hw:∀j,From w7.heap.size j->j<w8.heap.size->(w1.heap.size<=j/\j≠w6.heap.size)/\(sL w4.heap.size 0 1 1).ownBlock≠some j:=λ j hj _=>by
   have h1:w7.heap.size<=j:=hj;have h2:=av.size;refine⟨⟨by omega,by omega⟩,λ e=>?_⟩;have h3:w4.heap.size=j:=by simpa [Value.ownBlock] using e
   omega
  exact C1 ((bu.since (Since.of_below bo)).base' hw) ((c1.since (Since.of_below bo)).base hw)
 obtain⟨g9,c9,w9,cg,c8,bp,ci,em,da⟩:=c5.push (ad:=⟨w5.heap.size,0,none⟩) (cs:=[iv k4,iv o4,iv n4,strV t4,iv s4,strV y4,.slice a4 a5.length c4,iv 0]) (λ j u hj=>by
  have h1:w8.cell? ⟨w5.heap.size,j,none⟩=some u:=by rw[Bf b0,List.getElem?_toArray];exact hj
  by_cases h0:j=0
  .subst h0;simpa [Addr.add] using h1
  .simpa [Addr.add,h0] using h1) cd (by simp) (λ j hj=>by have:=a9.size;exact⟨by omega,by omega⟩) 1 44
 replace bp:Below w1.heap.size w8 w9:=bp _ (by have:=a9.size;omega) (λ j hj=>hj.1);have a6:w9.heap[w6.heap.size]?=some (.cells #[iv 10,iv 0,iv 0,sE,iv 0,strV am,sL w4.heap.size 0 1 1,iv 0] 48 (0,0)):=by
  rw[ci _ (by have:=a9.size;omega) (by simp[Value.ownBlock];omega),a9.block _ l7];exact aj
 refine Ah 10 λ K hK=>?_
 refine Cc _ _ 44 rfl _ _ rfl rfl _ _ cg ?_;refine hK _ _ (λ h=>by cases h) ?_;clear hK K
 try simp only[aP]
 obtain⟨e0,e1,e2,e3,e4,e5,e6,e7,h0,h1,h2,h3,h4,h5,h6,h7⟩:=Ac a6;have ek:w6.heap.size<w9.heap.size:=(AB a6).1;refine Ah 11 λ K hK=>?_
 go_simp;refine hK _ _ (λ h=>by cases h) ?_;clear hK K
 try simp only[aP]
 refine Ah 12 λ K hK=>?_
 go_simp;refine hK _ _ (λ h=>by cases h) ?_;clear hK K
 try simp only[aP]
 refine Vv.wpE_done (by kernel_rfl) ?_;obtain⟨w10,ag⟩:∃w10,w9.setCell ⟨w6.heap.size,6,none⟩ (sL g9 0 2 c9)=w10:=⟨_,rfl⟩;have a7:w10.heap[w6.heap.size]?=some (.cells #[iv 10,iv 0,iv 0,sE,iv 0,strV am,sL g9 0 2 c9,iv 0] 48 (0,0)):=by rw[<-ag];simp[World.setCell,Array.getElem?_modify,a6]
 have af:Below w1.heap.size w1 w10:=by rw[<-ag];exact ((a8.trans (a9.mono (by omega))).trans bp).setCell (p:=⟨w6.heap.size,6,none⟩) (by show w1.heap.size<=w6.heap.size;omega) _
 have b8:Ge (λ j=>w1.heap.size<=j/\j≠w6.heap.size) w10 (sL g9 0 2 c9) [.mk k2 o2 n2 t2 s2 y2 a0,.mk k4 o4 n4 t4 s4 y4 a5]:=by
  rw[<-ag];exact c8.since ⟨by simp[World.setCell],λ j hj _=>AG _ _ _ _ hj.2⟩
 obtain⟨m0,m1,m2,m3,m4,m5,m6,m7,-⟩:=Ac a7;have dt:w6.heap.size<w10.heap.size:=(AB a7).1;have ax:=(af.block _ (by omega)).trans dv;obtain⟨r0,r1,r2,r3,r4,r5,r6,r7,t0,t1,e9,t3,ej,t5,t6,t7⟩:=Ac ax;have bk:w0.heap.size<w10.heap.size:=(AB ax).1;have a3:Ae w R (.returned (.agg #[iv 10,iv 0,iv 0,sE,iv 0,strV am,sL g9 0 2 c9,iv 0])) (setc8 w10 w0.heap.size (iv 10) (iv 0) (iv 0) sE (iv 0) (strV am) (sL g9 0 2 c9) (iv 0)):=by
  rw[aq.out];have cu:Since (λ j=>w1.heap.size<=j/\j≠w6.heap.size) w10 (setc8 w10 w0.heap.size (iv 10) (iv 0) (iv 0) sE (iv 0) (strV am) (sL g9 0 2 c9) (iv 0)):=⟨by rw[A1];exact AD _,λ j h3 h4=>A0 (by have:=h3.1;omega) _ _ _ _ _ _ _ _⟩;obtain⟨row,e1,e2⟩:=(b8.since cu).row;exact⟨⟨_,row,rfl,e1.base' (λ j hj _=>by show w.heap.size<=j;have:=hj.1;omega),e2.base (λ j hj _=>by show w.heap.size<=j;have:=hj.1;omega)⟩,Ap (au.trans (af.mono (by omega))) (by omega) _ _ _ _ _ _ _ _⟩
 rw[ag];clear aq b6 c5 c8 b8 ba bw bu c1 ax a7 a6 aj al ar ae ai hS bf ag cg cd;simp only[Exit.inBlock,Exit.then];refine ‹∀(a:Act) (w:World),_->_› _ _ ?_;go_wp2_with fail;exact bodyPost_ret (by simp[results,results193,go_sem,bk,r0,r1,r2,r3,r4,r5,r6,r7]) rfl a3
theorem Di{P:Program}{a3:Array Oper}{Q:Exit->Act->World->Prop}{md:Region.Mode}{S:World->Prop}{N:Nat->Bool}{oi:Oper}{a0:Array Bool}(d:Option Tmp)(hi:a3[i]?=some oi)(hd:oi.dst=d)(hs:Region.noSelect a3=true)(hf:Region.free md a3 a0 i=true)(hr:(Region.ready md a3 a0).contains i=true)(hl:Vv.lateWait md a3 N i=true)
  (hQ:∀c a w,Q (.panic c) (a.put oi.dst undef) w->Q (.panic c) a w) (hw:Region.wanted oi (yielded a3 a.tmps)=false) (hS:S w) (h:Vv.wpE P md a3 Q S N f (a0.setIfInBounds i true) (a.put d undef) w):Vv.wpE P md a3 Q S N (f+1) a0 a w:=
 Vv.wpE_first (T:=S) hi (Region.noSelect_spec hs) hQ (λ _ h _=>h) f a0 a w (λ j oj h1 h2 h3 h4=>⟨Region.free_spec hi hf j oj h1 h2 h3 h4,λ w' hw'=>hw' (Vv.lateWait_spec hl h1 h2 h4)⟩) (by simpa using hr) (AJ ⟨hw,rfl⟩) hS (by rw[hd];exact h)
theorem Be{y6:Value}(h:w.heap[g]?=some (.cells #[y0,y1,y2,y3,y4,y5,y6] T (0,0))):w.cell? ⟨g,0,none⟩=some y0/\w.cell? ⟨g,1,none⟩=some y1/\w.cell? ⟨g,2,none⟩=some y2/\w.cell? ⟨g,3,none⟩=some y3/\w.cell? ⟨g,4,none⟩=some y4/\w.cell? ⟨g,5,none⟩=some y5/\w.cell? ⟨g,6,none⟩=some y6/\w.frozen? ⟨g,0,none⟩=false/\w.frozen? ⟨g,1,none⟩=false/\w.frozen? ⟨g,2,none⟩=false/\w.frozen? ⟨g,3,none⟩=false/\w.frozen? ⟨g,4,none⟩=false/\w.frozen? ⟨g,5,none⟩=false/\w.frozen? ⟨g,6,none⟩=false:=by
 refine⟨?_,?_,?_,?_,?_,?_,?_,?_,?_,?_,?_,?_,?_,?_⟩
 all_goals first | simp[World.cell?,h] | simp[World.frozen?,h]
abbrev K7(w:World)(g:Nat)(x0 x1 x2 x3 x4 x5 x6:Value):World:=((((((w.setCell ⟨g,0,none⟩ x0).setCell ⟨g,1,none⟩ x1).setCell ⟨g,2,none⟩ x2).setCell ⟨g,3,none⟩ x3).setCell ⟨g,4,none⟩ x4).setCell ⟨g,5,none⟩ x5).setCell ⟨g,6,none⟩ x6
theorem Tw(w:World)(g:Nat)(x0 x1 x2 x3 x4 x5 x6:Value):(K7 w g x0 x1 x2 x3 x4 x5 x6).heap.size=w.heap.size:=by simp[K7,World.setCell]
theorem Rl{n:Nat}(h:Below n w w')(hg:n<=g)(x0 x1 x2 x3 x4 x5 x6:Value):Below n w (K7 w' g x0 x1 x2 x3 x4 x5 x6):=(((((((h.setCell (p:=⟨g,0,none⟩) hg x0).setCell (p:=⟨g,1,none⟩) hg x1).setCell (p:=⟨g,2,none⟩) hg x2).setCell (p:=⟨g,3,none⟩) hg x3).setCell (p:=⟨g,4,none⟩) hg x4).setCell (p:=⟨g,5,none⟩) hg x5).setCell (p:=⟨g,6,none⟩) hg x6)
theorem Xq{y6:Value}(h:w.heap[g]?=some (.cells #[y0,y1,y2,y3,y4,y5,y6] T (0,0)))(x0 x1 x2 x3 x4 x5 x6:Value):(K7 w g x0 x1 x2 x3 x4 x5 x6).heap[g]?=some (.cells #[x0,x1,x2,x3,x4,x5,x6] T (0,0)):=by
 simp[K7,World.setCell,Array.getElem?_modify,h]
theorem Tx(w:World)(x0 x1 x2 x3 x4 x5 x6:Value):∃wz w4,w.alloc (.cells #[sE,.bool false,sZ,sE,sZ,sZ,iv 0] 36)=wz/\K7 wz w.heap.size x0 x1 x2 x3 x4 x5 x6=w4/\Below w.heap.size w w4/\w4.heap.size=w.heap.size+1/\wz.heap.size=w.heap.size+1/\Below w.heap.size w wz/\w4.heap[w.heap.size]?=some (.cells #[x0,x1,x2,x3,x4,x5,x6] 36 (0,0))/\wz.heap[w.heap.size]?=some (.cells #[sE,.bool false,sZ,sE,sZ,sZ,iv 0] 36 (0,0)):=by
 have hb:Below w.heap.size w (w.alloc (.cells #[sE,.bool false,sZ,sE,sZ,sZ,iv 0] 36)):=(AF _ _).alloc (AD _) _;refine⟨_,_,rfl,rfl,Rl hb (AD _) _ _ _ _ _ _ _,by rw[Tw];simp,by simp,hb,Xq (heap_new _ _) _ _ _ _ _ _ _,heap_new _ _⟩
theorem Tz{B:AS}{args:List Px.Ex}{row:AR}(hr:SlRow B w 8 sl args.length row)(ha:Aj B w args row){q:Nat}{x:Px.Ex}(hi:args[q]?=some x):∃(g og cap k o n:Nat) (t:AQ) (a2:List Px.Ex) (p:Nat) (sl2:Value) (row2:AR),sl=sL g og args.length cap/\args.length<=cap/\g<w.heap.size/\x=.mk k o n t a2 p/\(w.cell? ⟨g,og+q*8,none⟩=some (iv k)/\w.cell? ⟨g,og+q*8+1,none⟩=some (iv o)/\w.cell? ⟨g,og+q*8+2,none⟩=some (iv n)/\w.cell? ⟨g,og+q*8+3,none⟩=some (strV t)/\w.cell? ⟨g,og+q*8+4,none⟩=some (iv 0)/\w.cell? ⟨g,og+q*8+5,none⟩=some sE/\w.cell? ⟨g,og+q*8+6,none⟩=some (sl2)/\w.cell? ⟨g,og+q*8+7,none⟩=some (iv p))/\SlRow B w 8 sl2 a2.length row2/\Aj B w a2 row2:=by
 have a6:=(AK hi).1;obtain⟨cs,a4,a3⟩:=ha.get hi;obtain⟨k,o,n,t,a2,p⟩:=x;rw[IsEx] at a4;obtain⟨sl2,row2,rfl,h2,h3⟩:=a4;rcases hr.2 with⟨_,h0⟩ | ⟨g,og,cap,hv,a5,a7,hB,hg,a0⟩
 .omega
 .refine⟨g,og,cap,k,o,n,t,a2,p,sl2,row2,hv,a5,hg,rfl,⟨a0 (q*8) _ (a3 0 (by omega)),a0 (q*8+1) _ (a3 1 (by omega)),a0 (q*8+2) _ (a3 2 (by omega)),a0 (q*8+3) _ (a3 3 (by omega)),a0 (q*8+4) _ (a3 4 (by omega)),a0 (q*8+5) _ (a3 5 (by omega)),a0 (q*8+6) _ (a3 6 (by omega)),a0 (q*8+7) _ (a3 7 (by omega))⟩,h2,h3⟩
theorem Ac7{hs:List Ck.Hd}(h:Xm w hs v){x:Ck.Hd}(hi:hs[i]?=some x):∃(g og cap:Nat) (nm:ByteArray) (ps:Value) (la:Option Addr) (ln lc:Nat) (ba:Option Addr) (bn bc:Nat) (pl:Int),v=sL g og hs.length cap/\hs.length<=cap/\g<w.heap.size/\w.cell? ⟨g,og+i*7,none⟩=some (.string nm)/\w.cell? ⟨g,og+i*7+1,none⟩=some (.bool x.on)/\w.cell? ⟨g,og+i*7+2,none⟩=some ps/\w.cell? ⟨g,og+i*7+3,none⟩=some (strV x.result)/\w.cell? ⟨g,og+i*7+4,none⟩=some (.slice la ln lc)/\w.cell? ⟨g,og+i*7+5,none⟩=some (.slice ba bn bc)/\w.cell? ⟨g,og+i*7+6,none⟩=some (iv pl)/\PaT w x.params ps:=by
 obtain⟨row,hr,a9⟩:=h;have ab:=(AK hi).1;obtain⟨nm,ps,la,ln,lc,ba,bn,bc,pl,a1,a2,a3,a4,a5,a6,a7,a8⟩:=a9 i x hi;rcases hr.2 with⟨_,h0⟩ | ⟨g,og,cap,hv,aa,ad,hB,hg,a0⟩
 .omega
 .exact⟨g,og,cap,nm,ps,la,ln,lc,ba,bn,bc,pl,hv,aa,hg,a0 _ _ a1,a0 _ _ a2,a0 _ _ a3,a0 _ _ a4,a0 _ _ a5,a0 _ _ a6,a0 _ _ a7,a8⟩
theorem Ak0{a3:List (List UInt8)}(h:PaT w a3 v){t:AQ}(hi:a3[i]?=some t):∃(g og cap:Nat),v=sL g og a3.length cap/\a3.length<=cap/\g<w.heap.size/\w.cell? ⟨g,og+i*3+1,none⟩=some (strV t):=by
 obtain⟨row,hr,a4⟩:=h;have a6:=(AK hi).1;rcases hr.2 with⟨_,h0⟩ | ⟨g,og,cap,hv,a5,a7,hB,hg,a0⟩
 .omega
 .exact⟨g,og,cap,hv,a5,hg,a0 _ _ (a4 i t hi)⟩
end
end Go.Proofs.YtpckmjfabiallaaGreatDoor
