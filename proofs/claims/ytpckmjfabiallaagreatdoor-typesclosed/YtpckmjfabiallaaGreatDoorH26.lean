/- Texts of ours, joined. -/
import Derived.Test.YtpckmjfabiallaaGreatDoorH25
import Derived.Test.YtpckmjfabiallaaGreatDoorH24
set_option linter.unusedVariables false
set_option linter.unusedSimpArgs false
set_option maxRecDepth 100000
set_option maxHeartbeats 16000000
namespace Go.Proofs.YtpckmjfabiallaaGreatDoor
variable{B':Nat->Prop}{b g i mb p:Nat}{cs:List Value}{sl v v0:Value}{w w':World}{x:List UInt8}
open List
open _root_.Go.Proofs.Tryz
section
open Go.RowKit
open Ck (CE CS CF CP Mng)
theorem Ak8:(prog.info? 36).map (λ i=>(i.zero,i.size,i.bytes))=some (some (.agg #[sE,.bool false,sZ,sE,sZ,sZ,iv 0]),7,120):=by kernel_rfl
theorem Ej.since{B:AS}(s:Since B w w'){e:CF}(h:Ej B w e cs):Ej B w' e cs:=by
 obtain⟨ps,ls,bs,h1,h2,h3,row,h4,h5⟩:=h;exact⟨ps,ls,bs,h1,SlRow.since h2 s,SlRow.since h3 s,row,h4.since s,h5.since s⟩
theorem Ej.base{B:AS}(hb:∀k,B k->k<w.heap.size->B' k){e:CF}(h:Ej B w e cs):Ej B' w e cs:=by
 obtain⟨ps,ls,bs,h1,h2,h3,row,h4,h5⟩:=h;exact⟨ps,ls,bs,h1,BD h2 hb,BD h3 hb,row,h4.base' hb,Au.base hb h5⟩
theorem Ej.ln{B:AS}{e:CF}(h:Ej B w e cs):cs.length=7:=by
 obtain⟨ps,ls,bs,hc,_⟩:=h;rw[hc];rfl
theorem Ej.ones{B:AS}{e:CF}(h:Ej B w e cs):∀u∈cs,u.oneCell'=true:=by
 obtain⟨ps,ls,bs,rfl,h2,h3,row,h4,h5⟩:=h;have a1:=SlRow.one h2;have a2:=SlRow.one h3;have a3:=h4.one;intro u hu;simp only[mem_cons,not_mem_nil,or_false] at hu;rcases hu with rfl | rfl | rfl | rfl | rfl | rfl | rfl <;> first | rfl | assumption
theorem B6.since{B:AS}{w w':World}(s:Since B w w'):∀{l:List CF} {cs:AR},B6 B w l cs->B6 B w' l cs
 | [],cs,h=>h
 | e :: r,cs,h=>by
  obtain⟨c1,c2,hc,h1,h2⟩:=h;exact⟨c1,c2,hc,h1.since s,B6.since s h2⟩
theorem B6.base{B B':AS}{w:World}(hb:∀k,B k->k<w.heap.size->B' k):∀{l:List CF} {cs:AR},B6 B w l cs->B6 B' w l cs
 | [],cs,h=>h
 | e :: r,cs,h=>by
  obtain⟨c1,c2,hc,h1,h2⟩:=h;exact⟨c1,c2,hc,h1.base hb,B6.base hb h2⟩
theorem B6.snoc{B:AS}{w:World}:∀{l:List CF} {row:AR} {e:CF} {cs:AR},B6 B w l row->Ej B w e cs->B6 B w (l ++ [e]) (row ++ cs)
 | [],row,e,cs,h1,h2=>by
  have h1:row=[]:=h1;subst h1;exact⟨cs,[],by simp,h2,rfl⟩
 | x :: r,row,e,cs,h1,h2=>by
  obtain⟨c1,c2,rfl,h3,h4⟩:=h1;exact⟨c1,c2 ++ cs,by simp,h3,B6.snoc h4 h2⟩
theorem B6.at{B:AS}{w:World}:∀{l:List CF} {row:AR} {i:Nat} {e:CF},B6 B w l row->l[i]?=some e->∃cs,Ej B w e cs/\∀j,j<7->row[i*7+j]?=cs[j]?
 | [],row,i,e,h,hi=>by simp at hi
 | a :: r,row,0,e,h,hi=>by
  obtain⟨c1,c2,hc,h1,h2⟩:=h;simp at hi;subst hi;exact⟨c1,h1,λ j hj=>by rw[hc,List.getElem?_append_left (by have:=h1.ln;omega)];simp⟩
 | a :: r,row,i+1,e,h,hi=>by
  obtain⟨c1,c2,hc,h1,h2⟩:=h;obtain⟨cs,k1,k2⟩:=B6.at h2 (by simpa using hi);refine⟨cs,k1,λ j hj=>?_⟩;have:=h1.ln;rw[hc,List.getElem?_append_right (by omega),<-k2 j hj];congr 1;omega
def De(B:AS)(w:World)(cur:Array Value)(l:List CF):Prop:=l.length*7<=cur.size/\∀(i:Nat) (x:CF),l[i]?=some x->∃cs,Ej B w x cs/\∀j,j<7->cur[i*7+j]?=cs[j]?
theorem De.since{B:AS}{cur:Array Value}{l:List CF}(h:De B w cur l)(s:Since B w w'):De B w' cur l:=⟨h.1,λ i x hi=>by
 obtain⟨cs,h1,h2⟩:=h.2 i x hi;exact⟨cs,h1.since s,h2⟩⟩
theorem De.base{B:AS}{cur:Array Value}{l:List CF}(h:De B w cur l)(hb:∀k,B k->k<w.heap.size->B' k):De B' w cur l:=⟨h.1,λ i x hi=>by
 obtain⟨cs,h1,h2⟩:=h.2 i x hi;exact⟨cs,h1.base hb,h2⟩⟩
def Gf(P:AS)(w:World)(sl:Value)(acc:List CF):Prop:=∃row,w.ownsRow 0 36 7 sl acc.length row/\(∀k,sl.ownBlock=some k->P k)/\B6 (λ k=>P k/\sl.ownBlock≠some k) w acc row
theorem Gf.nil(P:AS)(w:World):Gf P w sZ []:=⟨[],⟨rfl,AI ⟨rfl,rfl⟩⟩,λ k h=>by simp[Value.ownBlock] at h,by rw[B6]⟩
theorem Gf.since{P:AS}{acc:List CF}(h:Gf P w sl acc)(s:Since P w w'):Gf P w' sl acc:=by
 obtain⟨row,h1,h0,h2⟩:=h;refine⟨row,⟨h1.1,?_⟩,h0,h2.since ⟨s.size,λ k hk hl=>s.block k hk.1 hl⟩⟩;rcases h1.2 with h3 | ⟨g,cap,cur,h3,h4,h5,h6⟩
 .exact AI h3
 .exact AJ ⟨g,cap,cur,h3,h4,by rw[s.block g (h0 g (by rw[h3];rfl)) (Array.getElem?_eq_some_iff.1 h5).1];exact h5,h6⟩
theorem Gf.below{P:AS}{acc:List CF}(h:Gf P w sl acc)(hb:Below w.heap.size w w'):Gf P w' sl acc:=h.since (Since.of_below hb)
theorem Gf.row{P:AS}{w:World}{sl:Value}{acc:List CF}(h:Gf P w sl acc):∃row,SlRow P w 7 sl acc.length row/\B6 P w acc row:=by
 obtain⟨row,h1,h0,h2⟩:=h;refine⟨row,⟨by have:=h1.1;omega,?_⟩,h2.base (λ k hk _=>hk.1)⟩;rcases h1.2 with⟨h3,h4⟩ | ⟨g,cap,cur,h3,h4,h5,h6,h7,h8,h9⟩
 .exact AI ⟨h3,h4⟩
 .refine AJ ⟨g,0,cap,h3,h6,h7,h0 g (by rw[h3];rfl),(AB h5).1,λ j u hj=>?_⟩;rw[Bf h5,Nat.zero_add];rw[<-h9,List.getElem?_take] at hj;split at hj
  .simpa using hj
  .cases hj
theorem Gf.apart{P:AS}{acc:List CF}(h:Gf P w sl acc){k:Nat}(hk:w.heap.size<=k):sl.ownBlock≠some k:=by
 obtain⟨row,h1,_⟩:=h;intro e;have:=(h1.lt k e).2;omega
theorem Gf.base{P P':AS}{acc:List CF}(h:Gf P w sl acc)(hb:∀k,P k->k<w.heap.size->P' k):Gf P' w sl acc:=by
 obtain⟨row,h1,h0,h2⟩:=h;exact⟨row,h1,λ k hk=>hb k (h0 k hk) (h1.lt k hk).2,h2.base (λ k hk hl=>⟨hb k hk.1 hl,hk.2⟩)⟩
theorem Gf.push{P:AS}{acc:List CF}(h:Gf P w sl acc){x:CF}{ad:Addr}(a4:∀(j:Nat) (u:Value),cs[j]?=some u->w.cell? (ad.add j)=some u)(hx:Ej (λ k=>P k/\sl.ownBlock≠some k) w x cs)(hn:acc.length+1<=1000000)(hm:∀k,w.heap.size<=k->P k)(c:Nat)(ty:TypeId) :
  ∃g cap w',(Builtin.append_ #[24,24] ty #[sl,.slice (some ad) 1 c]).run prog w=.ok (sL g 0 (acc.length+1) cap) w'/\Gf P w' (sL g 0 (acc.length+1) cap) (acc ++ [x])/\(∀m,m<=w.heap.size->(∀k,P k->m<=k)->Below m w w')/\(∀k,k<w.heap.size->sl.ownBlock≠some k->w'.heap[k]?=w.heap[k]?)/\w.heap.size<=w'.heap.size/\(sl.ownBlock=some g\/w.heap.size<=g):=by
 obtain⟨row,a5,hP,a7⟩:=h;obtain⟨i,hi,hz,hs,hb⟩:=Es Ak8;obtain⟨g,cap,w',hr,ho,hg,a6,aa⟩:=run_append_lies (P:=prog) w 24 ty 0 36 i _ 7 120 underlying24 hi hz hs hb rfl (by decide) sl acc.length row a5 ad 1 c cs (by rw[hx.ln]) a4 hx.ones (by omega) (by unfold maxLen;omega) (by omega) (AO _) _ rfl;have a8:∀k,P k/\sl.ownBlock≠some k->k<w.heap.size->k≠g:=by
  intro k hk hl he;subst he;rcases a6 with h | h
  .exact hk.2 h
  .omega
 have a3:∀k,(P k/\sl.ownBlock≠some k)->k<w.heap.size->P k/\(sL g 0 (acc.length+1) cap).ownBlock≠some k/\(P k/\sl.ownBlock≠some k):=λ k h1 h2=>⟨h1.1,λ e=>a8 k h1 h2 (by simpa [Value.ownBlock] using e.symm),h1⟩
 have a0:Since (λ k=>P k/\(sL g 0 (acc.length+1) cap).ownBlock≠some k/\(P k/\sl.ownBlock≠some k)) w w':=⟨hg.size,λ k h1 h2=>hg.block k h2 (λ e=>h1.2.2.2 e.symm)⟩;refine⟨g,cap,w',hr,⟨row ++ cs,by simpa using ho,?_,?_⟩,λ m hm1 hm2=>(AF _ _).grown hg hm1 (λ k hk=>hm2 k (hP k hk)),λ k h1 h2=>hg.block k h1 (λ e=>h2 e.symm),hg.size,?_⟩
 .intro k hk;have a9:g=k:=by simpa [Value.ownBlock] using hk
  rw[<-a9];rcases a6 with h | h
  .exact hP g h
  .exact hm g (by omega)
 .exact (((a7.base a3).since a0).snoc ((hx.base a3).since a0)).base (λ k h _=>⟨h.1,h.2.1⟩)
 .rcases a6 with h | h
  .exact AI h
  .exact AJ (by omega)
theorem Gf.arr{P:AS}{acc:List CF}(h:Gf P w sl acc)(hn:0<acc.length):∃g cap cur,sl=sL g 0 acc.length cap/\P g/\w.heap[g]?=some (.cells cur 36 (0,0))/\acc.length<=cap/\cap<=9223372036854775807/\De (λ k=>P k/\k≠g) w cur acc:=by
 obtain⟨row,h1,h2,h3⟩:=h;rcases h1.2 with⟨_,h0⟩ | ⟨g,cap,cur,e1,-,e3,e4,e5,e6,e7⟩
 .omega
 .refine⟨g,cap,cur,e1,h2 g (by rw[e1];rfl),e3,e4,by unfold maxLen at e5;omega,?_,λ i x hi=>?_⟩
  .rw[e6];exact Nat.mul_le_mul_right 7 e4
  .obtain⟨cs,k1,k2⟩:=h3.at hi;refine⟨cs,k1.base (λ k hk _=>⟨hk.1,λ e=>hk.2 (by rw[e1,e];rfl)⟩),λ j hj=>?_⟩;have hl:=(AK hi).1;have h9:=k2 j hj;rw[<-e7,List.getElem?_take,if_pos (by omega)] at h9;simpa using h9
theorem De.all{B:AS}{w:World}:∀{l:List CF} {row:AR},row.length=l.length*7->(∀(i:Nat) (x:CF),l[i]?=some x->∃cs,Ej B w x cs/\∀j,j<7->row[i*7+j]?=cs[j]?)->B6 B w l row
 | [],row,hl,_=>by have:row=[]:=length_eq_zero_iff.1 (by simpa using hl);exact this
 | x :: r,row,hl,h=>by
  obtain⟨cs,k1,k2⟩:=h 0 x rfl;have a3:=k1.ln;have a0:row.length=(r.length+1)*7:=by simpa using hl
  have e1:row.take 7=cs:=by
   refine ext_getElem? λ j=>?_
   rw[List.getElem?_take];split
   .rename_i hj;have:=k2 j hj;simpa using this
   .rw[List.getElem?_eq_none_iff.2 (by omega)]
  refine⟨cs,row.drop 7,by rw[<-e1,take_append_drop],k1,De.all (by rw[length_drop,a0];omega) (λ i y hy=>?_)⟩;obtain⟨ds,m1,m2⟩:=h (i+1) y (by simpa using hy);refine⟨ds,m1,λ j hj=>?_⟩;rw[List.getElem?_drop,<-m2 j hj];congr 1;omega
theorem De.fns{B:AS}{cur:Array Value}{l:List CF}{cap:Nat}(h:De B w cur l)(hb:w.heap[g]?=some (.cells cur 36 (0,0)))(hB:B g)(h1:l.length<=cap)(h2:cap<=9223372036854775807):Ab9 B w l (sL g 0 l.length cap):=by
 have a0:(cur.toList.take (l.length*7)).length=l.length*7:=by have:=h.1;simp;omega
 refine⟨cur.toList.take (l.length*7),⟨a0,AJ ⟨g,0,cap,rfl,h1,by unfold maxLen;omega,hB,(AB hb).1,λ j u hj=>?_⟩⟩,De.all (a0) (λ i x hi=>?_)⟩
 .rw[Bf hb,Nat.zero_add];rw[List.getElem?_take] at hj;split at hj
  .simpa using hj
  .cases hj
 .obtain⟨cs,k1,k2⟩:=h.2 i x hi;have hl:=(AK hi).1;refine⟨cs,k1,λ j hj=>?_⟩;rw[List.getElem?_take,if_pos (by omega),<-k2 j hj];simp
def H4(f:CF):Ck.Hd:=⟨f.on,f.params.map Prod.snd,f.result⟩
theorem Ae1{l:List (List UInt8 × List UInt8)}{s:List UInt8 × List UInt8}(h:l[i]?=some s):(l.flatMap Ba)[i*3+1]?=some (strV s.2):=by
 induction l generalizing i with
 | nil=>simp at h
 | cons a r ih=>
  have e:(a :: r).flatMap Ba=Ba a ++ r.flatMap Ba:=by simp
  have hl:(Ba a).length=3:=rfl;rw[e];rcases i with _ | i
  .simp at h;subst h;rfl
  .rw[List.getElem?_append_right (by omega),hl,show (i+1)*3+1 - 3=i*3+1 by omega];exact ih (by simpa using h)
theorem De.hds{B:AS}{cur:Array Value}{l:List CF}{cap:Nat}(h:De B w cur l)(hb:w.heap[g]?=some (.cells cur 36 (0,0)))(hB:B g)(h1:l.length<=cap)(h2:cap<=9223372036854775807):O8 B w (l.map H4) (sL g 0 l.length cap):=by
 obtain⟨row,⟨e1,e2⟩,e3⟩:=h.fns hb hB h1 h2;refine⟨row,⟨by rw[length_map];exact e1,by rw[length_map];exact e2⟩,λ i hd hi=>?_⟩;rw[List.getElem?_map] at hi;rcases hx:l[i]? with _ | x
 .rw[hx] at hi;cases hi
 .rw[hx] at hi;simp only[Option.map_some,Option.some.injEq] at hi;subst hi;obtain⟨cs,⟨ps,ls,bs,rfl,m1,m2,m3⟩,k2⟩:=e3.at hx;obtain⟨la,lc,rfl,-,-⟩:=SlRow.val m2;obtain⟨a0,m3,-⟩:=m3;obtain⟨ba,bc,rfl,-,-⟩:=m3.val;refine⟨_,ps,la,_,lc,ba,_,bc,0,k2 0 (by omega),k2 1 (by omega),k2 2 (by omega),k2 3 (by omega),k2 4 (by omega),k2 5 (by omega),k2 6 (by omega),x.params.flatMap Ba,?_,λ j t hj=>?_⟩
  .have m1:SlRow B w 3 ps x.params.length (x.params.flatMap Ba):=m1;show SlRow B w 3 ps (x.params.map Prod.snd).length _;rw[length_map];exact m1
  .have hj:(x.params.map Prod.snd)[j]?=some t:=hj;rw[List.getElem?_map] at hj;rcases hy:x.params[j]? with _ | y
   .rw[hy] at hj;cases hj
   .rw[hy] at hj;simp only[Option.map_some,Option.some.injEq] at hj;subst hj;exact Ae1 hy
end
section
open Go.RowKit
open Ck (CE CS CF CP Mng)
attribute [local go_sem ↓] Go.wp_at_zero Go.wp_at_succ
def Eb(f:Px.Fn):CF:=⟨f.name,f.on,Ck.slots f.params,f.result,[],[]⟩
theorem Ak9{B:AS}{f:Px.Fn}(h:Hz B w (Ck.slots f.params) v):Ej B w (Eb f) [strV f.name,.bool f.on,v,strV f.result,sZ,sZ,iv 0]:=
 ⟨v,sZ,sZ,rfl,h,⟨rfl,AI ⟨rfl,rfl⟩⟩,[],⟨rfl,AI ⟨rfl,rfl⟩⟩,Au.nil⟩
theorem Do.more{env:Ck.Env}(h:Do env)(x:AQ)(m:Mng)(hm:m.kind≠0):Do (env ++ [(x,m)]):=λ y hy=>by
 rcases mem_append.1 hy with hy | hy
 .exact h y hy
 .simp at hy;subst hy;exact hm
theorem H5{env e:Ck.Env}{m:Mng}(h:Ck.note env x p m=.inl e):e=env ++ [(x,m)]:=by
 obtain⟨_,-,h⟩:=An h;cases h;rfl
theorem Vy{B:AS}{l:List Px.Fn}(h:Fj B w l v){f:Px.Fn}(hi:l[i]?=some f):∃(g o cap:Nat) (pa ba:Option Addr) (pc bc:Nat),v=sL g o l.length cap/\B g/\g<w.heap.size/\(∀j u,[strV f.name,.bool f.on,.slice pa f.params.length pc,strV f.result,sZ,.slice ba f.body.length bc,iv f.place][j]?=some u->w.cell? ⟨g,o+i*7+j,none⟩=some u)/\Eh B w f [strV f.name,.bool f.on,.slice pa f.params.length pc,strV f.result,sZ,.slice ba f.body.length bc,iv f.place]:=by
 obtain⟨row,h1,h2⟩:=h;obtain⟨cs,hf,k2⟩:=h2.get hi;have a4:=(AK hi).1;obtain⟨g,o,cap,e,-,-,hB,hg,hc⟩:=h1.cells (by omega);have a3:=hf;obtain⟨ps,bs,rfl,m1,row2,m2,m3⟩:=hf;obtain⟨pa,pc,rfl,-,-⟩:=SlRow.val m1;obtain⟨ba,bc,rfl,-,-⟩:=m2.val;refine⟨g,o,cap,pa,ba,pc,bc,e,hB,hg,λ j u hj=>?_,a3⟩;rw[Nat.add_assoc];have a0:j<7:=(AK hj).1;exact hc _ _ (by rw[k2 j a0];exact hj)
structure H1(n0 b mb cb nb:Nat)(w4:World)(l:List Px.Sl)(A:Ck.R Ck.Env)(q:Nat)(envr:Ck.Env)(nvr:Value)(names:List (List UInt8))(wr:World):Prop where
 env:A7 wr mb envr
 eok:Do envr
 sc:Sc n0 b cb nb nvr names wr
 nl:names.length=q
 nv:∀j,nvr.ownBlock=some j->w4.heap.size<=j
 fm:Fm (λ j=>j=mb\/j=nb) w4 wr
 ans:A=Ck.states envr q (l.drop q)
structure H2(n0 b mb cb nb n1:Nat)(v0 ss lv0:Value)(num:Nat)(w4:World)(l:List Px.Fn)(A:Ck.R Ck.Env)(q:Nat)(envr:Ck.Env)(nvr fs:Value)(names:List (List UInt8))(wr:World):Prop where
 env:A7 wr mb envr
 eok:Do envr
 sc:Sc n0 b cb nb nvr names wr
 nl:names.length=n1+q
 nv:∀j,nvr.ownBlock=some j->w4.heap.size<=j
 blk:wr.heap[b]?=some (.cells #[v0,ss,fs,.map (some mb),iv num,lv0] 62 (0,0))
 gf:Gf (λ j=>w4.heap.size<=j/\nvr.ownBlock≠some j) wr fs ((l.take q).map Eb)
 fm:Fm (λ j=>j=b\/j=mb\/j=nb) w4 wr
 ans:A=Ck.fns envr q (l.drop q)
def T7(b mb:Nat)(v0 lv0:Value)(num:Nat)(p:Px.Pr)(w:World)(r:Ck.R Ck.Env)(e:Ending)(w':World):Prop:=
 match r with
 | .inl env'=>e=.returned (.tuple #[])/\∃ss fs,w'.heap[b]?=some (.cells #[v0,ss,fs,.map (some mb),iv num,lv0] 62 (0,0))/\A7 w' mb env'/\Hz (λ j=>From w.heap.size j/\fs.ownBlock≠some j) w' (Ck.slots p.states) ss/\Gf (From w.heap.size) w' fs (p.fns.map Eb)/\Fm (λ j=>j=b\/j=mb) w w'
 | .inr (a,er)=>e=.panicked (Af a er)/\Fm (λ j=>j=b\/j=mb) w w'
theorem Xw{p:Px.Pr}{num:Nat}{lv0:Value}{sa fa:Option Addr}{sc fc:Nat}
  (hblk:w.heap[b]?=some (.cells #[v0,sZ,sZ,.map (some mb),iv num,lv0] 62 (0,0))) (henv:A7 w mb []) (hbm:b≠mb)
  (hst:Dv (λ j=>j<w.heap.size/\j≠b/\j≠mb) w p.states (.slice sa p.states.length sc)) (hfn:Fj (λ j=>j<w.heap.size/\j≠b/\j≠mb) w p.fns (.slice fa p.fns.length fc))
  (hl1:p.states.length<=40000) (hl2:p.fns.length<=40000) (ec:∀s∈p.states,s.name.length<=1000/\s.type.length<=1000)
  (f0:∀f∈p.fns,f.name.length<=1000/\f.result.length<=1000/\f.params.length<=100000/\∀s∈f.params,s.name.length<=1000/\s.type.length<=1000) :
  AA 46 #[pt b 0,.agg #[iv p.version,.slice sa p.states.length sc,.slice fa p.fns.length fc]] w λ e w'=>T7 b mb v0 lv0 num p w (Ck.bind (Ck.states [] 0 p.states) λ e1=>Ck.fns e1 0 p.fns) e w':=by
 have hb:b<w.heap.size:=(AB hblk).1;have hm:mb<w.heap.size:=henv.lt;obtain⟨R,HR⟩:∃R:Ck.R Ck.Env,Hid ((Ck.bind (Ck.states [] 0 p.states) λ e1=>Ck.fns e1 0 p.fns)=R):=⟨_,rfl⟩;rw[HR.out];obtain⟨A,HA⟩:∃A:Ck.R Ck.Env,Hid (Ck.states [] 0 p.states=A):=⟨_,rfl⟩;have dz:Hid (R=Ck.bind A λ e1=>Ck.fns e1 0 p.fns):=by show _=_;rw[<-HA.out];exact HR.out.symm
 clear HR;obtain⟨w0,eo⟩:∃w0,w.alloc (.cells #[iv p.version,.slice sa p.states.length sc,.slice fa p.fns.length fc] 26)=w0:=⟨_,rfl⟩;have ce:Below w.heap.size w w0:=by rw[<-eo];exact (AF _ _).alloc (AD _) _
 have eu:w0.heap[w.heap.size]?=some (.cells #[iv p.version,.slice sa p.states.length sc,.slice fa p.fns.length fc] 26 (0,0)):=by rw[<-eo];exact heap_new _ _
 have l0:w.heap.size<w0.heap.size:=(AB eu).1;have fy:=Gg (n0:=w.heap.size) (b:=b) (w:=w0) (by omega);have ev:=λ (j:Nat) (s:Px.Sl) (hj:p.states[j]?=some s)=>Jv hst hj
 have el:=λ (j:Nat) (f:Px.Fn) (hj:p.fns[j]?=some f)=>Vy hfn hj
 replace ev:=Bw ev;replace el:=Bw el;replace ec:=Bw ec;replace f0:=Bw f0;go_enter func46,ntmps46;go_wp2_with fail;refine fy.mono ?_;rintro e w3 ⟨cb,nb,rfl,dq,i0,hw,ds⟩;clear fy;have h7:=ds.size;have em:=(ds.block _ l0).trans eu;obtain⟨d0,d1,d2,-⟩:=Ar em;have gw:w.heap.size<w3.heap.size:=by omega
 have d7:Below w.heap.size w w3:=ce.trans (ds.mono ce.size);have f6:=Nh (w:=w3) (SlRow.since hst (Since.of_below d7)) (by omega) ec.out;have c8:=(d7.block _ hb).trans hblk;have c4:A7 w3 mb []:=henv.since (d7.block _ hm);have ht:cb<w3.heap.size:=(AB dq.cbk).1;have ej:nb<w3.heap.size:=(AB dq.nbk).1;clear ds ce eo eu;go_wp2_with fail;refine f6.mono ?_;rintro e w4a ⟨a2,c2,rfl,bu,b6⟩;clear f6 d0 d1 d2;have gu:=b6.size;have am:=(b6.block b (by omega)).trans c8;obtain⟨-,g1,-,-,-,-,-,f1,-⟩:=Bc am;have ho:b<w4a.heap.size:=by omega
 obtain⟨w4,fq⟩:∃w4,w4a.setCell ⟨b,1,none⟩ (.slice a2 p.states.length c2)=w4:=⟨_,rfl⟩;have cw:Fm (λ j=>j=b) w4a w4:=by rw[<-fq];exact Fm.set (X:=λ j=>j=b) rfl 1 _
 have c1:w4.heap[b]?=some (.cells #[v0,.slice a2 p.states.length c2,sZ,.map (some mb),iv num,lv0] 62 (0,0)):=by rw[<-fq];simp[World.setCell,Array.getElem?_modify,am]
 have gi:=cw.size;have b3:Fm (λ j=>j=b) w w4:=(Fm.of_below (X:=λ _=>False) (d7.trans (b6.mono d7.size))).trans cw (λ _ _ h=>h.elim) (λ _ _ h=>h);have cg:Fm (λ j=>j=b) w3 w4:=(Fm.of_below (X:=λ _=>False) b6).trans cw (λ _ _ h=>h.elim) (λ _ _ h=>h);have f5:=(cg.block _ gw (by omega)).trans em;have fh:Cls w3.heap.size w4 (.slice a2 p.states.length c2) (Ck.slots p.states):=bu.since (λ j e=>cw.block j (bu.lt e).2 (by have:=(bu.lt e).1;omega));have e8:SlRow (λ j=>w3.heap.size<=j/\j<w4.heap.size) w4 3 (.slice a2 p.states.length c2) (Ck.slots p.states).length ((Ck.slots p.states).flatMap Ba):=BD fh.row (λ j h1 h2=>⟨h1,h2⟩);have fv:(Ck.slots p.states).length=p.states.length:=by simp[Ck.slots]
 rw[fv] at e8;have di:Hid (H1 w.heap.size b mb cb nb w4 p.states A 0 [] sZ [] w4):=by
  refine⟨c4.since (cg.block mb (by omega) (by omega)),λ x hx=>(by cases hx),dq.keep (λ j hj=>cg.block j ?_ ?_),rfl,λ j e=>(by cases e),Fm.refl _ _,?_⟩
  .rcases hj with rfl | rfl | e
   .exact ht
   .exact ej
   .cases e
  .rcases hj with rfl | rfl | e
   .omega
   .omega
   .cases e
  .rw[drop_zero];exact HA.out.symm
 obtain⟨d0,d1,d2,-⟩:=Ar f5;have gm:w.heap.size<w4.heap.size:=by omega
 have ab:∀(a er:Nat) (X:AS) (wy:World),Fm X w4 wy->(∀j,j<w.heap.size->X j->j=b\/j=mb)->R=.inr (a,er)->T7 b mb v0 lv0 num p w R (.panicked (Af a er)) wy:=λ a er X wy hF hX hR=>by
  rw[hR];exact⟨rfl,b3.trans hF (λ j _ e=>AI e) hX⟩
 replace ab:=Bw ab;have gk:w.heap.size<=nb:=by omega
 clear HA bu b6 am cw dq c4 c8 em fh;go_wp2_with fail;clear d0 d1 d2 g1 f1
 go_loopg [27] p.states.length (λ gh ii wr=>∃q envr nvr names,q<=p.states.length/\gh=p.states.length - q/\ii=iv q/\Hid (H1 w.heap.size b mb cb nb w4 p.states A q envr nvr names wr))
 case atStart=>exact⟨0,[],sZ,[],AO _,rfl,rfl,di⟩
 case round=>
  obtain⟨q,envr,nvr,names,hq,rfl,rfl,HI⟩:=hrel;clear di;have da:=HI.out.fm.size;by_cases hlt:q<p.states.length
  .have bo:(q:Int)<(p.states.length:Int):=by omega
   have hk:(0:Int)<=(q:Int):=by omega
   obtain⟨s,e5⟩:∃s,p.states[q]?=some s:=⟨_,AN hlt⟩;obtain⟨ga,oa,ca,ea,a7,b4,u0,u1,u2⟩:=ev.out q s e5;simp only[Value.slice.injEq] at ea;obtain⟨rfl,-,rfl⟩:=ea;have a0:∀j,j<w.heap.size->j≠b->j≠mb->wr.heap[j]?=w.heap[j]?:=λ j h1 h2 h3=>(HI.out.fm.block j (by omega) (by rintro (e | e) <;> omega)).trans (b3.block j h1 h2)
   replace u0:=(Ak (a0 ga b4 a7.2.1 a7.2.2)).trans u0;replace u1:=(Ak (a0 ga b4 a7.2.1 a7.2.2)).trans u1;replace u2:=(Ak (a0 ga b4 a7.2.1 a7.2.2)).trans u2;have eq:ga<wr.heap.size:=by omega
   have ag:=(HI.out.fm.block b (by omega) (by rintro (e | e) <;> omega)).trans c1;rcases e8.2 with⟨-,h0⟩ | ⟨sg,so,g5,ft,gn,gv,i3,ep,bb⟩
   .omega
   simp only[Value.slice.injEq] at ft;obtain⟨rfl,-,rfl⟩:=ft;have d6:w4.cell? ⟨sg,so+q*3+1,none⟩=some (strV s.type):=by
    rw[Nat.add_assoc];exact bb _ _ (Ae1 (l:=Ck.slots p.states) (i:=q) (s:=(s.name,s.type)) (by simp[Ck.slots,e5]))
   have dh:=(Ak (HI.out.fm.block sg ep (by rintro (e | e) <;> omega))).trans d6;obtain⟨w5,ci⟩:∃w5,wr.alloc (.cells #[sE,sE,iv 0] 40)=w5:=⟨_,rfl⟩;obtain⟨w6,cc⟩:∃w6,((w5.setCell ⟨wr.heap.size,0,none⟩ (strV s.name)).setCell ⟨wr.heap.size,1,none⟩ (strV s.type)).setCell ⟨wr.heap.size,2,none⟩ (iv s.place)=w6:=⟨_,rfl⟩;have d3:Below wr.heap.size wr w5:=by rw[<-ci];exact (AF _ _).alloc (AD _) _
   have br:w5.heap[wr.heap.size]?=some (.cells #[sE,sE,iv 0] 40 (0,0)):=by rw[<-ci];exact heap_new _ _
   have l5:wr.heap.size<w5.heap.size:=(AB br).1;have au:Below wr.heap.size wr w6:=by rw[<-cc];exact ((d3.setCell (p:=⟨wr.heap.size,0,none⟩) (AD _) _).setCell (p:=⟨wr.heap.size,1,none⟩) (AD _) _).setCell (p:=⟨wr.heap.size,2,none⟩) (AD _) _
   have bv:w6.heap[wr.heap.size]?=some (.cells #[strV s.name,strV s.type,iv s.place] 40 (0,0)):=by rw[<-cc];simp[World.setCell,Array.getElem?_modify,br]
   have l6:wr.heap.size<w6.heap.size:=(AB bv).1;obtain⟨y0,y1,y2,z0,z1,z2⟩:=Ar br;obtain⟨c5,cm,c7,-⟩:=Ar bv;have bp:Fm (λ j=>j=mb\/j=nb) w4 w6:=HI.out.fm.trans (Fm.of_below (X:=λ _=>False) au) (λ _ _ h=>h) (λ _ _ h=>h.elim);have a4:p.states.drop q=s :: p.states.drop (q+1):=by
    obtain⟨hi,rfl⟩:=AK e5;exact drop_eq_getElem_cons hi
   have bi:Hid (A=Ck.bind (Ck.need (decide (q<32)) s.place 36) λ _=>Ck.bind (Ck.note envr s.name s.place ⟨1,q,s.type⟩) λ e=>Ck.states e (q+1) (p.states.drop (q+1))):=by
    show _=_;rw[HI.out.ans,a4,Ck.states]
   have a5:=(au.block b (by omega)).trans ag;obtain⟨f4,-⟩:=bcell au;have p6:=(f4 sg (so+q*3+1) (by omega)).trans dh;obtain⟨-,c6,-⟩:=Bc a5;have af:A7 w6.drew mb envr:=HI.out.env.since (au.block mb HI.out.env.lt);have bl:Sc w.heap.size b cb nb nvr names w6.drew:=HI.out.sc.keep (λ j hj=>au.block j (by
    rcases hj with rfl | rfl | e
    .exact (AB HI.out.sc.cbk).1
    .exact (AB HI.out.sc.nbk).1
    .exact (HI.out.sc.own.lt e).2))
   have hc:=au.size;have a8:=Lb (w:=w6.drew) a5 af HI.out.eok bl (by show w.heap.size<=w6.heap.size;omega) hm (by rw[HI.out.nl];omega) s.name s.place ⟨1,q,s.type⟩;have bt:=λ e=>H5 (env:=envr) (x:=s.name) (p:=s.place) (m:=⟨1,q,s.type⟩) (e:=e)
   generalize Ck.note envr s.name s.place ⟨1,q,s.type⟩=D at *;replace bt:=Bw bt;clear a0 a7 bb d6 dh br d3 bv a4 ag f4 a5 af bl;by_cases h32:q<32
   rotate_left
   .have cu:decide ((q:Int)<32)=false:=decide_eq_false (by omega);have hN:=Ao s.place 36 w6;have a3:=ab.out s.place 36 _ w6 bp (λ j _ e=>by rcases e with e | e;exact AJ e;omega) (by rw[dz.out,bi.out,decide_eq_false h32];rfl);clear a8 HI ab;go_wp2_with fail;refine hN.mono ?_;rintro e w7 ⟨rfl,rfl⟩;exact⟨rfl,a3⟩
   have cu:decide ((q:Int)<32)=true:=decide_eq_true (by omega);have hN:=Av s.place 36 w6;have ch:Hid (A=Ck.bind D λ e=>Ck.states e (q+1) (p.states.drop (q+1))):=by
    show _=_;rw[bi.out,decide_eq_true h32];rfl
   clear bi;go_wp2_with fail;refine hN.mono ?_;rintro e w7 ⟨rfl,d4⟩;obtain rfl:=d4.symm;clear hN d4;go_wp2_with fail;refine Vv.wpE_begin (S:=λ w'=>w'.cell? ⟨wr.heap.size,0,none⟩=some (strV s.name)/\w'.cell? ⟨wr.heap.size,2,none⟩=some (iv s.place)/\w'.cell? ⟨b,1,none⟩=some (sL sg so p.states.length c2)/\w'.cell? ⟨sg,so+q*3+1,none⟩=some (strV s.type)) (N:=λ j=>decide (j<16)) (by kernel_rfl) ?_;have a6:w6.drew.cell? ⟨wr.heap.size,0,none⟩=some (strV s.name)/\w6.drew.cell? ⟨wr.heap.size,2,none⟩=some (iv s.place)/\w6.drew.cell? ⟨b,1,none⟩=some (sL sg so p.states.length c2)/\w6.drew.cell? ⟨sg,so+q*3+1,none⟩=some (strV s.type):=⟨c5,c7,c6,p6⟩;refine Aa 37 [16] 0 (.func (.func 112) #[] #[pt cb 0,pt nb 0]) a6 ?_
   try simp only[aP]
   refine Aa 38 [2,16] 1 (pt wr.heap.size 0) a6 ?_
   try simp only[aP]
   refine Aa 39 [16] 2 (strV s.name) a6 ?_
   try simp only[aP]
   refine Aa 40 [4,16] 3 (pt wr.heap.size 2) a6 ?_
   try simp only[aP]
   refine Aa 41 [16] 4 (iv s.place) a6 ?_
   try simp only[aP]
   refine Aa 42 [15,16] 5 (iv q) a6 ?_
   try simp only[aP]
   refine Aa 43 [7,8,9,10,12,13,14,15,16] 6 (pt b 0) a6 ?_
   try simp only[aP]
   refine Aa 44 [8,9,10,12,13,14,15,16] 7 (pt b 0) a6 ?_
   try simp only[aP]
   refine Aa 45 [9,10,12,13,14,15,16] 8 (pt b 0) a6 ?_
   try simp only[aP]
   refine Aa 46 [10,12,13,14,15,16] 9 (pt b 1) a6 ?_
   try simp only[aP]
   refine Aa 47 [12,13,14,15,16] 10 (sL sg so p.states.length c2) a6 ?_
   try simp only[aP]
   refine Aa 48 [12,13,14,15,16] 11 (iv q) a6 ?_
   try simp only[aP]
   refine Aa 49 [13,14,15,16] 12 (pt sg (so+q*3)) a6 ?_
   try simp only[aP]
   refine Aa 50 [14,15,16] 13 (pt sg (so+q*3+1)) a6 ?_
   try simp only[aP]
   refine Aa 51 [15,16] 14 (strV s.type) a6 ?_
   try simp only[aP]
   refine Aa 52 [16] 15 (.agg #[iv 1,iv q,strV s.type]) a6 ?_
   try simp only[aP]
   refine Ah 16 λ K hK=>?_
   go_simp;refine a8.mono ?_;rintro e w8 hP;clear a8 a6;rcases D with env' | ⟨a,er⟩
   rotate_left
   .obtain⟨e6,cl⟩:=hP;obtain rfl:=e6;have a3:=ab.out a er (λ j=>j=mb\/j=nb) w8 (bp.trans (Fm.of_below (X:=λ _=>False) (⟨cl.os,cl.tape,cl.output,cl.size,cl.block⟩:Below w6.heap.size w6 w8)) (λ _ _ h=>h) (λ _ _ h=>h.elim)) (λ j _ e=>by rcases e with e | e;exact AJ e;omega) (by rw[dz.out,ch.out];rfl);exact⟨rfl,a3⟩
   obtain⟨rfl,c0,⟨bk,b5,az⟩,av⟩:=hP;have he:=bt.out _ rfl;refine hK _ _ (λ h=>by cases h) ?_;clear hK K
   try simp only[aP]
   refine Vv.wpE_done (by kernel_rfl) ?_;have bf:Hid (H1 w.heap.size b mb cb nb w4 p.states A (q+1) env' bk (names ++ [s.name]) w8):=by
    have aj:=HI.out.nv;refine⟨c0,by rw[he];exact HI.out.eok.more _ _ (by show (1:Nat)≠0;decide),b5,by rw[length_append,HI.out.nl];rfl,λ j e=>?_,bp.trans (⟨av.os,av.tape,av.output,av.size,av.block⟩:Fm (λ j=>j=mb\/j=nb\/nvr.ownBlock=some j) w6 w8) (λ _ _ h=>h) (λ j hj e=>?_),by rw[ch.out];rfl⟩
    .rcases az j e with e | e
     .exact aj j e
     .have:w6.heap.size<=j:=e;omega
    .rcases e with e | e | e
     .exact AI e
     .exact AJ e
     .have:=aj j e;omega
   clear c0 b5 az av he bt ch HI bp c5 cm c7 c6 p6 cc ci y0 y1 y2 z0 z1 z2 u0 u1 u2;simp only[Exit.inBlock,Exit.then];refine ‹∀(a:Act) (w:World),_->_› _ _ ?_;go_wp2_with fail;go_roundg (p.states.length - (q+1))
   case measure=>omega
   case rel=>exact⟨q+1,env',bk,_,by omega,rfl,by go_num,bf⟩
  .have bo:¬(q:Int)<(p.states.length:Int):=by omega
   have fi:q=p.states.length:=by omega
   have de:A=.inl envr:=by
    rw[HI.out.ans,drop_of_length_le (by omega)];rfl
   have cy:Hid (R=Ck.fns envr 0 p.fns):=by
    show _=_;rw[dz.out,de];rfl
   obtain⟨A2,bi⟩:∃A2:Ck.R Ck.Env,Hid (Ck.fns envr 0 p.fns=A2):=⟨_,rfl⟩;rw[bi.out] at cy;have ag:=(HI.out.fm.block b (by omega) (by rintro (e | e) <;> omega)).trans c1;have di:Hid (H2 w.heap.size b mb cb nb p.states.length v0 (.slice a2 p.states.length c2) lv0 num w4 p.fns A2 0 envr nvr sZ names wr):=⟨HI.out.env,HI.out.eok,HI.out.sc,by rw[HI.out.nl,fi];rfl,HI.out.nv,ag,Gf.nil _ _,HI.out.fm.mono (λ j _ e=>AJ e),by rw[drop_zero];exact bi.out.symm⟩;have fg:=(HI.out.fm.block _ gm (by rintro (e | e) <;> omega)).trans f5;obtain⟨d0,d1,d2,-⟩:=Ar fg;have gj:w.heap.size<wr.heap.size:=by omega
   clear HI de bi dz fi ag fg;go_wp2_with fail;clear d0 d1 d2 gj;obtain⟨f7,ee⟩:∃f7,Hid (f7=wr):=⟨wr,rfl⟩;clear ee
   go_loopg [58] p.fns.length (λ gh ii wr=>∃q envr nvr names ar ax,q<=p.fns.length/\gh=p.fns.length - q/\ii=iv q/\Hid (H2 w.heap.size b mb cb nb p.states.length v0 (.slice a2 p.states.length c2) lv0 num w4 p.fns A2 q envr nvr (.slice ar q ax) names wr))
   case atStart=>exact⟨0,envr,nvr,names,none,0,AO _,rfl,rfl,di⟩
   case round=>
    clear di hq hlt bo;obtain⟨q,envr,nvr,names,ar,ax,hq,rfl,rfl,HI⟩:=hrel;have da:=HI.out.fm.size;by_cases hlt:q<p.fns.length
    .have bo:(q:Int)<(p.fns.length:Int):=by omega
     have hk:(0:Int)<=(q:Int):=by omega
     obtain⟨f,du⟩:∃f,p.fns[q]?=some f:=⟨_,AN hlt⟩;obtain⟨ga,oa,ca,pa,ba,pc,bc,ea,a7,b4,aa,b7⟩:=el.out q f du;simp only[Value.slice.injEq] at ea;obtain⟨rfl,-,rfl⟩:=ea;obtain⟨g6,gb,g8,h6⟩:=f0.out f (mem_of_getElem? du);have a0:∀j,j<w.heap.size->j≠b->j≠mb->wr.heap[j]?=w.heap[j]?:=λ j h1 h2 h3=>(HI.out.fm.block j (by omega) (by rintro (e | e | e) <;> omega)).trans (b3.block j h1 h2)
     have ha:=Ak (a0 ga b4 a7.2.1 a7.2.2) (o:=oa+q*7);have u0:wr.cell? ⟨ga,oa+q*7,none⟩=some (strV f.name):=(Ak (a0 ga b4 a7.2.1 a7.2.2)).trans (aa 0 _ rfl);have u1:=(Ak (a0 ga b4 a7.2.1 a7.2.2)).trans (aa 1 _ rfl);have u2:=(Ak (a0 ga b4 a7.2.1 a7.2.2)).trans (aa 2 _ rfl);have u3:=(Ak (a0 ga b4 a7.2.1 a7.2.2)).trans (aa 3 _ rfl);have u4:=(Ak (a0 ga b4 a7.2.1 a7.2.2)).trans (aa 4 _ rfl);have u5:=(Ak (a0 ga b4 a7.2.1 a7.2.2)).trans (aa 5 _ rfl);have u6:=(Ak (a0 ga b4 a7.2.1 a7.2.2)).trans (aa 6 _ rfl);have eq:ga<wr.heap.size:=by omega
     obtain⟨w5,ci⟩:∃w5,wr.alloc (.cells #[sE,.bool false,sZ,sE,sZ,sZ,iv 0] 36)=w5:=⟨_,rfl⟩;obtain⟨w6,cc⟩:∃w6,((((((w5.setCell ⟨wr.heap.size,0,none⟩ (strV f.name)).setCell ⟨wr.heap.size,1,none⟩ (.bool f.on)).setCell ⟨wr.heap.size,2,none⟩ (.slice pa f.params.length pc)).setCell ⟨wr.heap.size,3,none⟩ (strV f.result)).setCell ⟨wr.heap.size,4,none⟩ sZ).setCell ⟨wr.heap.size,5,none⟩ (.slice ba f.body.length bc)).setCell ⟨wr.heap.size,6,none⟩ (iv f.place)=w6:=⟨_,rfl⟩;have d3:Below wr.heap.size wr w5:=by rw[<-ci];exact (AF _ _).alloc (AD _) _
     have br:w5.heap[wr.heap.size]?=some (.cells #[sE,.bool false,sZ,sE,sZ,sZ,iv 0] 36 (0,0)):=by rw[<-ci];exact heap_new _ _
     have l5:wr.heap.size<w5.heap.size:=(AB br).1;have au:Below wr.heap.size wr w6:=by
      rw[<-cc];exact ((((((d3.setCell (p:=⟨wr.heap.size,0,none⟩) (AD _) _).setCell (p:=⟨wr.heap.size,1,none⟩) (AD _) _).setCell (p:=⟨wr.heap.size,2,none⟩) (AD _) _).setCell (p:=⟨wr.heap.size,3,none⟩) (AD _) _).setCell (p:=⟨wr.heap.size,4,none⟩) (AD _) _).setCell (p:=⟨wr.heap.size,5,none⟩) (AD _) _).setCell (p:=⟨wr.heap.size,6,none⟩) (AD _) _
     have bv:w6.heap[wr.heap.size]?=some (.cells #[strV f.name,.bool f.on,.slice pa f.params.length pc,strV f.result,sZ,.slice ba f.body.length bc,iv f.place] 36 (0,0)):=by rw[<-cc];simp[World.setCell,Array.getElem?_modify,br]
     have l6:wr.heap.size<w6.heap.size:=(AB bv).1;obtain⟨y0,y1,y2,y3,y4,y5,y6,z0,z1,z2,z3,z4,z5,z6⟩:=Be br;obtain⟨c5,cm,c7,dv,dx,dr,dy,-⟩:=Be bv;have bp:Fm (λ j=>j=b\/j=mb\/j=nb) w4 w6:=HI.out.fm.trans (Fm.of_below (X:=λ _=>False) au) (λ _ _ h=>h) (λ _ _ h=>h.elim);have a4:p.fns.drop q=f :: p.fns.drop (q+1):=by
      obtain⟨hi,rfl⟩:=AK du;exact drop_eq_getElem_cons hi
     have bi:Hid (A2=Ck.bind (Ck.need (decide (q<32)) f.place 36) λ _=>Ck.bind (Ck.note envr f.name f.place ⟨2,q,[]⟩) λ e=>Ck.bind (Ck.params 0 f.params) λ _=>Ck.fns e (q+1) (p.fns.drop (q+1))):=by
      show _=_;rw[HI.out.ans,a4,Ck.fns]
     have hc:=au.size;have a5:=(au.block b (by omega)).trans HI.out.blk;have af:A7 w6 mb envr:=HI.out.env.since (au.block mb HI.out.env.lt);have bl:Sc w.heap.size b cb nb nvr names w6:=HI.out.sc.keep (λ j hj=>au.block j (by
      rcases hj with rfl | rfl | e
      .exact (AB HI.out.sc.cbk).1
      .exact (AB HI.out.sc.nbk).1
      .exact (HI.out.sc.own.lt e).2))
     have a8:=Lb (w:=w6) a5 af HI.out.eok bl (by omega) hm (by rw[HI.out.nl];omega) f.name f.place ⟨2,q,[]⟩;have bt:=λ e=>H5 (env:=envr) (x:=f.name) (p:=f.place) (m:=⟨2,q,[]⟩) (e:=e)
     generalize Ck.note envr f.name f.place ⟨2,q,[]⟩=D at *;replace bt:=Bw bt;replace b7:=Bw b7;replace aa:=Bw aa;replace a0:=Bw a0;clear br d3 a4 af bl ha;by_cases h32:q<32
     rotate_left
     .have cu:decide ((q:Int)<32)=false:=decide_eq_false (by omega);have hN:=Ao f.place 36 w6;have a3:=ab.out f.place 36 _ w6 bp (λ j _ e=>by rcases e with e | e | e;exact AI e;exact AJ e;omega) (by rw[cy.out,bi.out,decide_eq_false h32];rfl);clear a8 HI ab a5 bv;go_wp2_with fail;refine hN.mono ?_;rintro e w7 ⟨rfl,rfl⟩;exact⟨rfl,a3⟩
     have cu:decide ((q:Int)<32)=true:=decide_eq_true (by omega);have hN:=Av f.place 36 w6;have ch:Hid (A2=Ck.bind D λ e=>Ck.bind (Ck.params 0 f.params) λ _=>Ck.fns e (q+1) (p.fns.drop (q+1))):=by
      show _=_;rw[bi.out,decide_eq_true h32];rfl
     clear bi;go_wp2_with fail;refine hN.mono ?_;rintro e w7 ⟨rfl,d4⟩;obtain rfl:=d4.symm;clear hN d4 u0 u1 u2 u3 u4 u5 u6 y0 y1 y2 y3 y4 y5 y6 z0 z1 z2 z3 z4 z5 z6 cu;go_wp2_with fail;refine a8.mono ?_;rintro e w8 hP;clear a8 c5 cm c7 dv dx dr dy;rcases D with env' | ⟨a,er⟩
     rotate_left
     .obtain⟨e6,cl⟩:=hP;obtain rfl:=e6;have a3:=ab.out a er (λ j=>j=b\/j=mb\/j=nb) w8 (bp.trans (Fm.of_below (X:=λ _=>False) cl) (λ _ _ h=>h) (λ _ _ h=>h.elim)) (λ j _ e=>by rcases e with e | e | e;exact AI e;exact AJ e;omega) (by rw[cy.out,ch.out];rfl);exact⟨rfl,a3⟩
     obtain⟨rfl,c0,⟨bk,b5,az⟩,av⟩:=hP;have he:=bt.out _ rfl;have hf:=av.size;have aj:=HI.out.nv;have cq:=(av.block wr.heap.size l6 (by rintro (e | e | e);omega;omega;have:=(HI.out.sc.own.lt e).2;omega)).trans bv;have ai:=(av.block b (by omega) (by rintro (e | e | e);exact hbm e;omega;have:=aj _ e;omega)).trans a5;have ae:Fm (λ j=>j=b\/j=mb\/j=nb) w4 w8:=bp.trans av (λ _ _ h=>h) (λ j hj e=>by
      rcases e with e | e | e
      .exact AJ (AI e)
      .exact AJ (AJ e)
      .have:=aj j e;omega)
     have bg:∀j,bk.ownBlock=some j->w4.heap.size<=j:=λ j e=>by
      rcases az j e with e | e
      .exact aj j e
      .omega
     have cr:Gf (λ j=>w4.heap.size<=j/\bk.ownBlock≠some j) w8 (.slice ar q ax) ((p.fns.take q).map Eb):=by
      have h1:=HI.out.gf.base (P':=λ j=>(w4.heap.size<=j/\nvr.ownBlock≠some j)/\j<wr.heap.size) (λ j h1 h2=>⟨h1,h2⟩);have h2:=(h1.below au).since (w':=w8) ⟨av.size,λ j hj hl=>av.block j hl (by rintro (e | e | e);omega;omega;exact hj.1.2 e)⟩;exact h2.base (λ j hj _=>⟨hj.1.1,λ e=>by
       rcases az j e with e | e
       .exact hj.1.2 e
       .omega⟩)
     have ez:Do env':=by rw[he];exact HI.out.eok.more _ _ (by show (2:Nat)≠0;decide)
     have ew:(names ++ [f.name]).length=p.states.length+(q+1):=by rw[length_append,HI.out.nl];simp;omega
     have e9:(Value.slice ar q ax).ownBlock≠some wr.heap.size:=HI.out.gf.apart (AD _);obtain⟨B2,HB⟩:∃B2:Ck.R Unit,Hid (Ck.params 0 f.params=B2):=⟨_,rfl⟩;have e4:Hid (A2=Ck.bind B2 λ _=>Ck.fns env' (q+1) (p.fns.drop (q+1))):=by
      show _=_;rw[ch.out,HB.out];rfl
     have g2:Hid (Below w8.heap.size w8 w8/\B2=Ck.params 0 (f.params.drop 0)):=⟨AF _ _,by rw[drop_zero];exact HB.out.symm⟩;obtain⟨d0,d1,d2,-⟩:=Be cq;have g9:wr.heap.size<w8.heap.size:=by omega
     have cj:b<w8.heap.size:=by omega
     clear HI ch HB bt he av az aj au a5 bv bp ci cc;go_wp2_with fail;clear d0 d1 d2;obtain⟨wo,hp⟩:∃wo,wo=wr:=⟨_,rfl⟩;subst hp
     go_loopg [79] f.params.length (λ gh ii wz=>∃jj,jj<=f.params.length/\gh=f.params.length - jj/\ii=iv jj/\Hid (Below w8.heap.size w8 wz/\B2=Ck.params jj (f.params.drop jj)))
     case atStart=>exact⟨0,AO _,rfl,rfl,g2⟩
     case round=>
      clear g2;obtain⟨jj,hy,rfl,rfl,HK⟩:=hrel;obtain⟨wz,hn⟩:∃wz,wz=wr:=⟨_,rfl⟩;subst hn;obtain⟨bx,ct⟩:=HK.out;have d5:=bx.size;replace ct:=Bw ct;by_cases hlt3:jj<f.params.length
      .have dd:(jj:Int)<(f.params.length:Int):=by omega
       have gr:(0:Int)<=(jj:Int):=by omega
       obtain⟨s,fu⟩:∃s,f.params[jj]?=some s:=⟨_,AN hlt3⟩;obtain⟨ps,bs,dj,cz,-⟩:=b7.out;simp only[List.cons.injEq,and_true,true_and] at dj;obtain⟨rfl,rfl⟩:=dj;obtain⟨g3,o3,c3,e3,bh,fk,u0,u1,u2⟩:=Jv cz fu;simp only[Value.slice.injEq] at e3;obtain⟨rfl,-,rfl⟩:=e3;have h5:wo.heap[g3]?=w.heap[g3]?:=a0.out g3 fk bh.2.1 bh.2.2;have f3:w8.heap[g3]?=w.heap[g3]?:=(ae.block g3 (by omega) (by rintro (e | e | e);exact bh.2.1 e;exact bh.2.2 e;omega)).trans (b3.block g3 fk bh.2.1);have dw:=(bx.block g3 (by omega)).trans f3;replace u0:=(Ak dw).trans u0;replace u1:=(Ak dw).trans u1;replace u2:=(Ak dw).trans u2;have h4:g3<wz.heap.size:=by omega
       obtain⟨w9,fd⟩:∃w9,wz.alloc (.cells #[sE,sE,iv 0] 40)=w9:=⟨_,rfl⟩;obtain⟨w10,d9⟩:∃w10,((w9.setCell ⟨wz.heap.size,0,none⟩ (strV s.name)).setCell ⟨wz.heap.size,1,none⟩ (strV s.type)).setCell ⟨wz.heap.size,2,none⟩ (iv s.place)=w10:=⟨_,rfl⟩;have fp:Below wz.heap.size wz w9:=by rw[<-fd];exact (AF _ _).alloc (AD _) _
       have dt:w9.heap[wz.heap.size]?=some (.cells #[sE,sE,iv 0] 40 (0,0)):=by rw[<-fd];exact heap_new _ _
       have l9:wz.heap.size<w9.heap.size:=(AB dt).1;have b0:Below wz.heap.size wz w10:=by rw[<-d9];exact ((fp.setCell (p:=⟨wz.heap.size,0,none⟩) (AD _) _).setCell (p:=⟨wz.heap.size,1,none⟩) (AD _) _).setCell (p:=⟨wz.heap.size,2,none⟩) (AD _) _
       have ay:w10.heap[wz.heap.size]?=some (.cells #[strV s.name,strV s.type,iv s.place] 40 (0,0)):=by rw[<-d9];simp[World.setCell,Array.getElem?_modify,dt]
       have hu:wz.heap.size<w10.heap.size:=(AB ay).1;obtain⟨y0,y1,y2,z0,z1,z2⟩:=Ar dt;obtain⟨c5,cm,c7,-⟩:=Ar ay;have a4:f.params.drop jj=s :: f.params.drop (jj+1):=by
        obtain⟨hi,rfl⟩:=AK fu;exact drop_eq_getElem_cons hi
       have ey:Hid (B2=Ck.bind (Ck.need (decide (jj<8)) s.place 36) λ _=>Ck.params (jj+1) (f.params.drop (jj+1))):=by
        show _=_;rw[ct.out,a4,Ck.params]
       have aw:Below w8.heap.size w8 w10:=bx.trans (b0.mono d5);clear a4 dt ay fp dw f3 h5 ct HK cz;by_cases h8:jj<8
       rotate_left
       .have cu:decide ((jj:Int)<8)=false:=decide_eq_false (by omega);have hN:=Ao s.place 36 w10;have a3:=ab.out s.place 36 (λ j=>j=b\/j=mb\/j=nb) w10 (ae.trans (Fm.of_below (X:=λ _=>False) aw) (λ _ _ h=>h) (λ _ _ h=>h.elim)) (λ j _ e=>by rcases e with e | e | e;exact AI e;exact AJ e;omega) (by rw[cy.out,e4.out,ey.out,decide_eq_false h8];rfl);clear ab cr b5 c0 ai cq aw b0 ae;go_wp2_with fail;refine hN.mono ?_;rintro e w7 ⟨rfl,rfl⟩;exact⟨rfl,a3⟩
       have cu:decide ((jj:Int)<8)=true:=decide_eq_true (by omega);have hN:=Av s.place 36 w10;have bf:Hid (Below w8.heap.size w8 w10/\B2=Ck.params (jj+1) (f.params.drop (jj+1))):=⟨aw,by rw[ey.out,decide_eq_true h8];rfl⟩;clear ey aw b0;replace cr:=Bw cr;replace b5:=Bw b5;replace c0:=Bw c0;replace ai:=Bw ai;replace cq:=Bw cq;replace ae:=Bw ae;go_wp2_with fail;refine hN.mono ?_;rintro e w11 ⟨rfl,d8⟩;obtain rfl:=d8.symm;clear hN d8;go_wp2_with fail;go_roundg (f.params.length - (jj+1))
       case measure=>omega
       case rel=>exact⟨jj+1,by omega,rfl,by go_num,bf⟩
      .have dd:¬(jj:Int)<(f.params.length:Int):=by omega
       have de:Hid (A2=Ck.fns env' (q+1) (p.fns.drop (q+1))):=by
        show _=_;rw[e4.out,ct.out,drop_of_length_le (by omega)];rfl
       clear e4 ct HK;obtain⟨ps,bs,dj,cz,-⟩:=b7.out;simp only[List.cons.injEq,and_true,true_and] at dj;obtain⟨rfl,rfl⟩:=dj;have dl:Since (λ j=>j<w.heap.size/\j≠b/\j≠mb) w w8:=⟨by omega,λ j h1 h2=>(ae.block j (by omega) (by rintro (e | e | e);exact h1.2.1 e;exact h1.2.2 e;omega)).trans (b3.block j h2 h1.2.1)⟩;have df:=SlRow.since cz dl;have e0:=λ w' (hb:Below wz.heap.size wz w')=>Ae0 (f:=f) (ba:=ba) (bn:=f.body.length) (bc:=bc) (w:=w') (SlRow.since (SlRow.since df (Since.of_below bx)) (Since.of_below hb)) g8 h6 g6 gb
       replace e0:=Bw e0;have f9:=(bx.block _ g9).trans cq;have b8:=(bx.block b cj).trans ai;obtain⟨c5,cm,c7,dv,dx,dr,dy,-⟩:=Be f9;obtain⟨-,-,fj,-⟩:=Bc b8;have ed:wo.heap.size<wz.heap.size:=by omega
       have ek:b<wz.heap.size:=by omega
       have g4:w4.heap.size<=wz.heap.size:=by omega
       clear cz df dl cq ai;go_wp2_with fail;have hS:∀w':World,w'.heap[wo.heap.size]?=wz.heap[wo.heap.size]?->w'.heap[b]?=wz.heap[b]?->(w'.cell? ⟨wo.heap.size,0,none⟩=some (strV f.name)/\w'.cell? ⟨wo.heap.size,1,none⟩=some (.bool f.on)/\w'.cell? ⟨wo.heap.size,2,none⟩=some (.slice pa f.params.length pc)/\w'.cell? ⟨wo.heap.size,3,none⟩=some (strV f.result)/\w'.cell? ⟨wo.heap.size,4,none⟩=some sZ/\w'.cell? ⟨wo.heap.size,5,none⟩=some (.slice ba f.body.length bc)/\w'.cell? ⟨wo.heap.size,6,none⟩=some (iv f.place)/\w'.cell? ⟨b,2,none⟩=some (.slice ar q ax)):=λ w' h1 h2=>⟨(Ak h1).trans c5,(Ak h1).trans cm,(Ak h1).trans c7,(Ak h1).trans dv,(Ak h1).trans dx,(Ak h1).trans dr,(Ak h1).trans dy,(Ak h2).trans fj⟩
       replace hS:=Bw hS;refine Vv.wpE_begin (S:=λ w'=>w'.cell? ⟨wo.heap.size,0,none⟩=some (strV f.name)/\w'.cell? ⟨wo.heap.size,1,none⟩=some (.bool f.on)/\w'.cell? ⟨wo.heap.size,2,none⟩=some (.slice pa f.params.length pc)/\w'.cell? ⟨wo.heap.size,3,none⟩=some (strV f.result)/\w'.cell? ⟨wo.heap.size,4,none⟩=some sZ/\w'.cell? ⟨wo.heap.size,5,none⟩=some (.slice ba f.body.length bc)/\w'.cell? ⟨wo.heap.size,6,none⟩=some (iv f.place)/\w'.cell? ⟨b,2,none⟩=some (.slice ar q ax)) (N:=λ j=>decide (j<10)) (by kernel_rfl) ?_;have fb:Below wz.heap.size wz wz.drew:=(AF _ _).drew;have a6:=hS.out wz.drew rfl rfl;have en:wz.heap.size<=wz.drew.heap.size:=AD _;generalize wz.drew=wd at *;clear c5 cm c7 dv dx dr dy fj;refine Aa 90 [10,11,12,13] 0 (pt b 0) a6 ?_
       try simp only[aP]
       refine Aa 91 [2,3,4,5,9,10,11,12,13] 1 (pt b 0) a6 ?_
       try simp only[aP]
       refine Aa 92 [3,4,5,9,10,11,12,13] 2 (pt b 0) a6 ?_
       try simp only[aP]
       refine Aa 93 [4,5,9,10,11,12,13] 3 (pt b 0) a6 ?_
       try simp only[aP]
       refine Aa 94 [5,9,10,11,12,13] 4 (pt b 2) a6 ?_
       try simp only[aP]
       refine Aa 95 [9,10,11,12,13] 5 (.slice ar q ax) a6 ?_
       try simp only[aP]
       refine Aa 96 [7,8,9,10,11,12,13] 6 (.agg #[strV f.name,.bool f.on,.slice pa f.params.length pc,strV f.result,sZ,.slice ba f.body.length bc,iv f.place]) a6 ?_
       try simp only[aP]
       refine Ah 7 λ K hK=>?_
       go_simp;refine (e0.out wd fb).mono ?_;rintro e wa ⟨a9,c9,rfl,eb,dk⟩;have cv:Below wz.heap.size wz wa:=fb.trans (dk.mono en);refine hK _ _ (λ _=>hS.out wa (cv.block _ ed) (cv.block _ ek)) ?_;clear hK K e0
       try simp only[aP]
       obtain⟨wb,eh⟩:∃wb,wa.alloc (.cells #[strV f.name,.bool f.on,.slice a9 f.params.length c9,strV f.result,sZ,sZ,iv 0] 36)=wb:=⟨_,rfl⟩;have cf:Below wa.heap.size wa wb:=by rw[<-eh];exact (AF _ _).alloc (AD _) _
       have bw:wb.heap[wa.heap.size]?=some (.cells #[strV f.name,.bool f.on,.slice a9 f.params.length c9,strV f.result,sZ,sZ,iv 0] 36 (0,0)):=by rw[<-eh];exact heap_new _ _
       have cd:Below wz.heap.size wz wb:=cv.trans (cf.mono cv.size);refine Ah 8 λ K hK=>?_
       go_simp
       try rw[eh]
       refine hK _ _ (λ _=>hS.out wb (cd.block _ ed) (cd.block _ ek)) ?_;clear hK K
       try simp only[aP]
       have hr:=cv.size;have gy:=cd.size;have ak:Below w8.heap.size w8 wb:=bx.trans (cd.mono d5);have f2:Gf (λ j=>w4.heap.size<=j/\bk.ownBlock≠some j) wb (.slice ar q ax) ((p.fns.take q).map Eb):=cr.below ak;have cp:∀j,bk.ownBlock=some j->j<w8.heap.size:=λ j e=>(b5.own.lt e).2
       have fx:((p.fns.take q).map Eb).length=q:=by simp;omega
       have fr:Cls wd.heap.size wb (.slice a9 f.params.length c9) (Ck.slots f.params):=eb.since (λ j e=>cf.block j (eb.lt e).2);have ff:Ej (λ j=>(w4.heap.size<=j/\bk.ownBlock≠some j)/\(Value.slice ar q ax).ownBlock≠some j) wb (Eb f) [strV f.name,.bool f.on,.slice a9 f.params.length c9,strV f.result,sZ,sZ,iv 0]:=Ak9 (by
        have h1:(Ck.slots f.params).length=f.params.length:=by simp[Ck.slots]
        exact BD fr.row (λ j hj _=>by
         have hj:wd.heap.size<=j:=hj;refine⟨⟨by omega,λ e=>by have:=cp j e;omega⟩,λ e=>?_⟩;exact cr.apart (by omega) e))
       obtain⟨ex,ef,w10,co,bq,b0,dc,et,dn⟩:=f2.push (ad:=⟨wa.heap.size,0,none⟩) (cs:=[strV f.name,.bool f.on,.slice a9 f.params.length c9,strV f.result,sZ,sZ,iv 0]) (λ j u hj=>by
        have h1:wb.cell? ⟨wa.heap.size,j,none⟩=some u:=by rw[Bf bw,List.getElem?_toArray];exact hj
        by_cases h0:j=0
        .subst h0;simpa [Addr.add] using h1
        .simpa [Addr.add,h0] using h1) ff (by rw[fx];omega) (λ j hj=>⟨by omega,λ e=>by have:=cp j e;omega⟩) 1 24
       rw[fx] at co bq;have f8:(p.fns.take q).map Eb ++ [Eb f]=(p.fns.take (q+1)).map Eb:=by rw[take_add_one,du,map_append];rfl
       rw[f8] at bq;have b9:∀j,(Value.slice ar q ax).ownBlock=some j->w4.heap.size<=j/\bk.ownBlock≠some j/\j<wb.heap.size:=λ j e=>by
        obtain⟨eg,h1,h0,-⟩:=f2;have:=World.ownsRow.lt h1 j e;exact⟨(h0 j e).1,(h0 j e).2,this.2⟩
       have aq:∀j,j<wb.heap.size->(Value.slice ar q ax).ownBlock≠some j->w10.heap[j]?=wb.heap[j]?:=dc;have ay:w10.heap[wo.heap.size]?=wz.heap[wo.heap.size]?:=(aq _ (by omega) e9).trans (cd.block _ ed);have be:w10.heap[b]?=wz.heap[b]?:=(aq b (by omega) (λ e=>by have:=(b9 b e).1;omega)).trans (cd.block _ ek);have al:=be.trans b8;obtain⟨w11,db⟩:∃w11,w10.setCell ⟨b,2,none⟩ (sL ex 0 (q+1) ef)=w11:=⟨_,rfl⟩;have ah:Fm (λ j=>j=b) w10 w11:=by rw[<-db];exact Fm.set (X:=λ j=>j=b) rfl 2 _
       have bf:Hid (H2 w.heap.size b mb cb nb p.states.length v0 (.slice a2 p.states.length c2) lv0 num w4 p.fns A2 (q+1) env' bk (sL ex 0 (q+1) ef) (names ++ [f.name]) w11):=by
        have bj:∀j,j<w8.heap.size->j≠b->(Value.slice ar q ax).ownBlock≠some j->w11.heap[j]?=w8.heap[j]?:=λ j h1 h2 h3=>(ah.block j (by omega) h2).trans ((aq j (by omega) h3).trans (ak.block j h1))
        have e7:mb<w8.heap.size:=by omega
        have ce:=b0 0 (AO _) (λ _ _=>AO _);have gz:Fm (λ j=>j=b\/(Value.slice ar q ax).ownBlock=some j) w8 w11:=⟨(ah.os.trans ce.os).trans ak.os,(ah.tape.trans ce.tape).trans ak.tape,(ah.output.trans ce.output).trans ak.output,AP ak.size (AP et ah.size),λ j h1 h2=>bj j h1 (λ e=>h2 (AI e)) (λ e=>h2 (AJ e))⟩;refine⟨c0.since (bj mb e7 (by omega) (λ e=>by have:=(b9 mb e).1;omega)),ez,b5.keep (λ j hj=>?_),ew,bg,?_,?_,ae.trans gz (λ _ _ h=>h) (λ j hj e=>?_),de.out⟩
        .have gg:j<w8.heap.size:=by
          rcases hj with rfl | rfl | e
          .exact (AB b5.cbk).1
          .exact (AB b5.nbk).1
          .exact (b5.own.lt e).2
         refine bj j gg ?_ (λ e=>?_)
         .rintro rfl;rcases hj with e | e | e
          .omega
          .omega
          .have:=bg _ e;omega
         .have h9:=b9 j e;rcases hj with rfl | rfl | e2
          .omega
          .omega
          .exact h9.2.1 e2
        .rw[<-db];simp[World.setCell,Array.getElem?_modify,al]
        .exact bq.since ⟨ah.size,λ j hj hl=>ah.block j hl (by have:=hj.1;omega)⟩
        .rcases e with e | e
         .exact AI e
         .have:=(b9 j e).1;omega
       obtain⟨-,-,hv,-,-,-,-,-,hz,-⟩:=Bc al;have gc:b<w10.heap.size:=by omega
       have dm:=hS.out w10 ay be;clear bq f2 ff fr eb b9 aq dc b0 dn bw cd cf cv dk ak cr b5 c0 ae hS ay be al ah f8 de bg cp b8 f9 bx b7 aa a0;refine Ah 9 λ K hK=>?_
       refine Cc _ _ 24 rfl _ _ rfl rfl _ _ co ?_;refine hK _ _ (λ _=>dm) ?_;clear hK K dm co
       try simp only[aP]
       refine Ah 10 λ K hK=>?_
       go_simp;refine hK _ _ (λ h=>by cases h) ?_;clear hK K
       try simp only[aP]
       refine Ah 11 λ K hK=>?_
       go_simp;refine hK _ _ (λ h=>by cases h) ?_;clear hK K
       try simp only[aP]
       refine Ah 12 λ K hK=>?_
       go_simp;refine hK _ _ (λ h=>by cases h) ?_;clear hK K
       try simp only[aP]
       refine Ah 13 λ K hK=>?_
       go_simp;refine hK _ _ (λ h=>by cases h) ?_;clear hK K
       try simp only[aP]
       refine Vv.wpE_done (by kernel_rfl) ?_;simp only[Exit.inBlock,Exit.then];refine ‹∀(a:Act) (w:World),_->_› _ _ ?_;go_wp2_with fail;go_roundg (p.fns.length - (q+1))
       case measure=>omega
       case rel=>exact⟨q+1,env',bk,_,some ⟨ex,0,none⟩,ef,by omega,rfl,by go_num,bf⟩
    .have bo:¬(q:Int)<(p.fns.length:Int):=by omega
     have a3:T7 b mb v0 lv0 num p w R (.returned (.tuple #[])) wr:=by
      have hR:R=.inl envr:=by
       rw[cy.out,HI.out.ans,drop_of_length_le (by omega)];rfl
      have hh:∀j,(Value.slice ar q ax).ownBlock=some j->w4.heap.size<=j:=λ j e=>by
       obtain⟨eg,-,h0,-⟩:=HI.out.gf;exact (h0 j e).1
      have hg:=HI.out.gf;rw[take_of_length_le (by omega)] at hg;rw[hR];have ei:SlRow (λ j=>w3.heap.size<=j/\j<w4.heap.size) wr 3 (.slice a2 p.states.length c2) p.states.length ((Ck.slots p.states).flatMap Ba):=e8.since ⟨da,λ j hj hl=>HI.out.fm.block j hl (by rintro (e | e | e) <;> omega)⟩;refine⟨rfl,_,_,HI.out.blk,HI.out.env,?_,hg.base (λ j hj _=>by have:=hj.1;show w.heap.size<=j;omega),b3.trans HI.out.fm (λ j _ e=>AI e) (λ j hj e=>by
       rcases e with e | e | e
       .exact AI e
       .exact AJ e
       .omega)⟩
      show SlRow _ _ 3 _ (Ck.slots p.states).length _;rw[fv];exact ei.base' (λ j hj _=>⟨by show w.heap.size<=j;omega,λ e=>by have:=hh j e;omega⟩)
     clear HI;go_wp2_with fail;exact bodyPost_end (results_none rfl _ _ _) rfl a3
structure PrSh(p:Px.Pr):Prop where
 l1:p.states.length<=40000
 l2:p.fns.length<=40000
 n1:∀s∈p.states,s.name.length<=1000/\s.type.length<=1000
 n2:∀f∈p.fns,f.name.length<=1000/\f.result.length<=1000/\f.params.length<=100000/\∀s∈f.params,s.name.length<=1000/\s.type.length<=1000
 sh:∀f∈p.fns,Ha f.body/\L7 f.body/\f.body.length<=1000000
theorem Le:∀(l:List Px.Sl) (env e:Ck.Env) (i:Nat),(∀s∈l,s.type.length<=1000)->Do env->(∀x∈env,x.2.type.length<=1000)->Ck.states env i l=.inl e->Do e/\∀x∈e,x.2.type.length<=1000
 | [],env,e,i,_,h1,h2,h=>by cases h;exact⟨h1,h2⟩
 | s :: r,env,e,i,ht,h1,h2,h=>by
  rw[Ck.states] at h;obtain⟨_,-,h⟩:=An h;obtain⟨e1,a2,h⟩:=An h;have:=H5 a2;subst this;refine Le r _ e (i+1) (λ x hx=>ht x (AH _ hx)) (h1.more _ _ (by show (1:Nat)≠0;decide)) (λ x hx=>?_) h;rcases mem_append.1 hx with hx | hx
  .exact h2 x hx
  .simp at hx;subst hx;exact ht s (AC ..)
theorem Vz:∀(l:List Px.Fn) (env e:Ck.Env) (i:Nat),Do env->(∀x∈env,x.2.type.length<=1000)->Ck.fns env i l=.inl e->Do e/\∀x∈e,x.2.type.length<=1000
 | [],env,e,i,h1,h2,h=>by cases h;exact⟨h1,h2⟩
 | f :: r,env,e,i,h1,h2,h=>by
  rw[Ck.fns] at h;obtain⟨_,-,h⟩:=An h;obtain⟨e1,a2,h⟩:=An h;obtain⟨_,-,h⟩:=An h;have:=H5 a2;subst this;refine Vz r _ e (i+1) (h1.more _ _ (by show (2:Nat)≠0;decide)) (λ x hx=>?_) h;rcases mem_append.1 hx with hx | hx
  .exact h2 x hx
  .simp at hx;subst hx;simp
theorem Ae2{hs:List Ck.Hd}{env:Ck.Env}{f:Px.Fn}{x:CF}(h:Ck.fn hs env i f=.inl x):x.name=f.name/\x.on=f.on/\x.params=Ck.slots f.params/\x.result=f.result:=by
 obtain⟨_,-,h⟩:=An h;obtain⟨_,-,h⟩:=An h;cases h;exact⟨rfl,rfl,rfl,rfl⟩
theorem Ae3(f:Px.Fn):H4 (Eb f)=Ck.hd f:=by
 unfold H4 Eb Ck.hd Ck.slots;simp only[map_map];rfl
theorem Ar1{hs:List Ck.Hd}{env:Ck.Env}{f:Px.Fn}{x:CF}(h:Ck.fn hs env i f=.inl x):H4 x=Ck.hd f:=by
 obtain⟨h1,h2,h3,h4⟩:=Ae2 h;rw[<-Ae3];unfold H4 Eb;rw[h2,h3,h4]
theorem De.put{B:AS}{cur:Array Value}{l:List CF}{f:Px.Fn}{x:CF}{lv bv:Value}(h:De B w cur l)(s:Since B w w')(hi:l[i]?=some (Eb f))(hx:x.name=f.name/\x.on=f.on/\x.params=Ck.slots f.params/\x.result=f.result)(ht:Na B w' x.locals lv)(hb:Fb B w' x.body bv):De B w' ((cur.setIfInBounds (i*7+5) bv).setIfInBounds (i*7+4) lv) (l.set i x):=by
 have hl:=(AK hi).1;have a0:=h.1;refine⟨by simpa using h.1,λ j y hj=>?_⟩;by_cases e:i=j
 .subst e;rw[List.getElem?_set_self hl] at hj;cases hj;obtain⟨cs,⟨ps,ls,bs,rfl,m1,-,-⟩,k2⟩:=h.2 i _ hi;refine⟨[strV x.name,.bool x.on,ps,strV x.result,lv,bv,iv 0],⟨ps,lv,bv,rfl,by rw[hx.2.2.1];exact SlRow.since m1 s,ht,hb⟩,λ j hj=>?_⟩;obtain⟨x1,x2,x3,x4⟩:=hx;have hk:=k2 j hj
  match j,hj with
  | 0,_=>rw[Array.getElem?_setIfInBounds_ne (by omega),Array.getElem?_setIfInBounds_ne (by omega),hk,x1];rfl
  | 1,_=>rw[Array.getElem?_setIfInBounds_ne (by omega),Array.getElem?_setIfInBounds_ne (by omega),hk,x2];rfl
  | 2,_=>rw[Array.getElem?_setIfInBounds_ne (by omega),Array.getElem?_setIfInBounds_ne (by omega),hk];rfl
  | 3,_=>rw[Array.getElem?_setIfInBounds_ne (by omega),Array.getElem?_setIfInBounds_ne (by omega),hk,x4];rfl
  | 4,_=>rw[Array.getElem?_setIfInBounds_self_of_lt (by simp;omega)];rfl
  | 5,_=>rw[Array.getElem?_setIfInBounds_ne (by omega),Array.getElem?_setIfInBounds_self_of_lt (by omega)];rfl
  | 6,_=>rw[Array.getElem?_setIfInBounds_ne (by omega),Array.getElem?_setIfInBounds_ne (by omega),hk];rfl
 .rw[List.getElem?_set_ne e] at hj;obtain⟨cs,k1,k2⟩:=h.2 j y hj;refine⟨cs,k1.since s,λ m hm=>?_⟩;rw[Array.getElem?_setIfInBounds_ne (by omega),Array.getElem?_setIfInBounds_ne (by omega),k2 m hm]
theorem Lf{B:AS}{l:List Px.Fn}(h:Fj B w l v)(hb:∀k,B k->B' k):Fj B' w l v:=by
 obtain⟨row,h1,h2⟩:=h;refine⟨row,h1.base hb,?_⟩;clear h1;induction l generalizing row with
 | nil=>exact h2
 | cons f r ih=>
  obtain⟨c1,c2,hc,⟨ps,bs,e1,e2,row2,e3,e4⟩,h3⟩:=h2;exact⟨c1,c2,hc,⟨ps,bs,e1,SlRow.base e2 hb,row2,e3.base hb,e4.base hb⟩,ih c2 h3⟩
structure PI(b mb gf nf fc base:Nat)(V:Int)(ss:Value)(env0:Ck.Env)(hs:List Ck.Hd)(w5:World)(fl:List Px.Fn)(A:Ck.R (List CF))(q num:Nat)(acc:List CF)(lv:Value)(cur:Array Value)(wr:World):Prop where
 blk:wr.heap[b]?=some (.cells #[iv V,ss,sL gf 0 nf fc,.map (some mb),iv num,lv] 62 (0,0))
 env:A7 wr mb env0
 row:wr.heap[gf]?=some (.cells cur 36 (0,0))
 fns:De (λ j=>base<=j/\j≠gf) wr cur (acc ++ (fl.drop q).map Eb)
 len:acc.length=q
 hd:acc.map H4=(fl.take q).map Ck.hd
 fm:Fm (Rq b mb gf) w5 wr
 ans:A=Ck.bind (Ck.bodies hs env0 q (fl.drop q)) λ xs=>.inl (acc ++ xs)
def Hc(b mb:Nat)(V:Int)(w:World)(r:Ck.R CP)(e:Ending)(w':World):Prop:=
 match r with
 | .inl c=>e=.returned (.tuple #[])/\∃ss fs num lv,w'.heap[b]?=some (.cells #[iv V,ss,fs,.map (some mb),iv num,lv] 62 (0,0))/\Hz (From w.heap.size) w' c.states ss/\Ab9 (From w.heap.size) w' c.fns fs/\(c.version:Int)=V/\Fm (λ j=>j=b\/j=mb) w w'
 | .inr (a,er)=>e=.panicked (Af a er)/\Fm (λ j=>j=b\/j=mb) w w'
theorem Pc{p:Px.Pr}{V:Int}(hV:Hid ((p.version:Int)=V)){sa fa:Option Addr}{sc fc:Nat}
  (hblk:w.heap[b]?=some (.cells #[iv 0,sZ,sZ,.map (some mb),iv 0,sZ] 62 (0,0))) (henv:A7 w mb []) (hbm:b≠mb)
  (hst:Dv (λ j=>j<w.heap.size/\j≠b/\j≠mb) w p.states (.slice sa p.states.length sc)) (hfn:Fj (λ j=>j<w.heap.size/\j≠b/\j≠mb) w p.fns (.slice fa p.fns.length fc))
  (hw:Px.WfP VW p) (hc:(Px.prT p).length<=4096) (he:Env8 w) (hsh:PrSh p) :
  AA 24 #[pt b 0,.agg #[iv V,.slice sa p.states.length sc,.slice fa p.fns.length fc]] w λ e w'=>Hc b mb V w (Ck.check p) e w':=by
 have hb:b<w.heap.size:=(AB hblk).1;have hm:mb<w.heap.size:=henv.lt;obtain⟨R,HR⟩:∃R:Ck.R CP,Hid (Ck.check p=R):=⟨_,rfl⟩;rw[HR.out];obtain⟨w0,dc⟩:∃w0,w.alloc (.cells #[iv V,.slice sa p.states.length sc,.slice fa p.fns.length fc] 26)=w0:=⟨_,rfl⟩;have b7:Below w.heap.size w w0:=by rw[<-dc];exact (AF _ _).alloc (AD _) _
 have c2:w0.heap[w.heap.size]?=some (.cells #[iv V,.slice sa p.states.length sc,.slice fa p.fns.length fc] 26 (0,0)):=by rw[<-dc];exact heap_new _ _
 have l0:w.heap.size<w0.heap.size:=(AB c2).1;have aw:=Xj (v:=.agg #[iv V,.slice sa p.states.length sc,.slice fa p.fns.length fc]) hw hc (he.below b7) (⟨_,_,by rw[hV.out],SlRow.since hst (Since.of_below b7),(by
  obtain⟨row,h1,h2⟩:=hfn;exact⟨row,h1.since (Since.of_below b7),h2.since (Since.of_below b7)⟩)⟩:Ec (λ j=>j<w.heap.size/\j≠b/\j≠mb) w0 p _)
 have cy:(((shT p).2:Int) != 11)=true:=by unfold shT;split <;> rfl
 generalize (shT p).2=er0 at *;generalize (shT p).1=tx0 at *;obtain⟨d0,d1,d2,-⟩:=Ar c2;clear hw hc he;go_enter func24,ntmps24;go_wp2_with fail;refine aw.mono ?_;rintro e w1 ⟨rfl,c8⟩;clear aw d0 d1 d2;have c0:Below w.heap.size w w1:=b7.trans (c8.mono b7.size);have e4:=c8.size;have cu:=(c8.block _ l0).trans c2;obtain⟨d0,d1,d2,-⟩:=Ar cu;have ds:w.heap.size<w1.heap.size:=by omega
 have hN:=Av 0 11 w1;go_wp2_with fail;refine hN.mono ?_;rintro e w2 ⟨rfl,bh⟩;obtain rfl:=bh.symm;clear hN bh cy c8 b7 c2;by_cases hv1:(1:Int)<=V
 rotate_left
 .have bq:decide ((1:Int)<=V)=false:=decide_eq_false hv1;have hN:=Ao 0 61 w1;have a0:Hc b mb V w R (.panicked (Af 0 61)) w1:=by
   have:R=.inr (0,61):=by
    rw[<-HR.out];unfold Ck.check;have h1:decide (1<=p.version)=false:=decide_eq_false (by have:=hV.out;omega);rw[h1];rfl
   rw[this];exact⟨rfl,BE c0⟩
  go_wp2_with fail
  refine hN.mono ?_;rintro e w7 ⟨rfl,rfl⟩;exact⟨rfl,a0⟩
 have bq:decide ((1:Int)<=V)=true:=decide_eq_true hv1;by_cases hv2:V<=1099511627776
 rotate_left
 .have bu:decide (V<=1099511627776)=false:=decide_eq_false hv2;have hN:=Ao 0 61 w1;have a0:Hc b mb V w R (.panicked (Af 0 61)) w1:=by
   have:R=.inr (0,61):=by
    rw[<-HR.out];unfold Ck.check;have h1:decide (p.version<=1099511627776)=false:=decide_eq_false (by have:=hV.out;omega);rw[h1,Bool.and_false];rfl
   rw[this];exact⟨rfl,BE c0⟩
  go_wp2_with fail
  refine hN.mono ?_;rintro e w7 ⟨rfl,rfl⟩;exact⟨rfl,a0⟩
 have bu:decide (V<=1099511627776)=true:=decide_eq_true hv2;have hN:=Av 0 61 w1;have ci:Hid (R=Ck.bind (Ck.bind (Ck.states [] 0 p.states) λ e1=>Ck.fns e1 0 p.fns) λ e2=>Ck.bind (Ck.bodies (p.fns.map Ck.hd) e2 0 p.fns) λ fs=>.inl ⟨p.version,Ck.slots p.states,fs⟩):=by
  show _=_;rw[<-HR.out,D9];unfold Ck.check;have h1:decide (1<=p.version)=true:=decide_eq_true (by have:=hV.out;omega);have h2:decide (p.version<=1099511627776)=true:=decide_eq_true (by have:=hV.out;omega);rw[h1,h2];rfl
 clear HR;go_wp2_with fail;refine hN.mono ?_;rintro e w2 ⟨rfl,bh⟩;obtain rfl:=bh.symm;clear hN bh bq bu hv1 hv2;have a8:=(c0.block b hb).trans hblk;obtain⟨g0,-,-,-,-,-,f0,-⟩:=Bc a8;have ei:b<w1.heap.size:=by omega
 obtain⟨w3,df⟩:∃w3,w1.setCell ⟨b,0,none⟩ (iv V)=w3:=⟨_,rfl⟩;have cq:Fm (λ j=>j=b) w1 w3:=by rw[<-df];exact Fm.set (X:=λ j=>j=b) rfl 0 _
 have b0:w3.heap[b]?=some (.cells #[iv V,sZ,sZ,.map (some mb),iv (0:Nat),sZ] 62 (0,0)):=by rw[<-df];simp[World.setCell,Array.getElem?_modify,a8]
 have ak:Fm (λ j=>j=b) w w3:=(Fm.of_below (X:=λ _=>False) c0).trans cq (λ _ _ h=>h.elim) (λ _ _ h=>h);have du:=cq.size;have cg:=(cq.block _ ds (by omega)).trans cu;have b6:Since (λ j=>j<w.heap.size/\j≠b/\j≠mb) w w3:=ak.since (λ j hj e=>hj.2.1 e);have bn:∀j,(j<w.heap.size/\j≠b/\j≠mb)->(j<w3.heap.size/\j≠b/\j≠mb):=λ j hj=>⟨by omega,hj.2⟩
 have bj:Dv (λ j=>j<w3.heap.size/\j≠b/\j≠mb) w3 p.states (.slice sa p.states.length sc):=SlRow.base (SlRow.since hst b6) bn;have b4:Fj (λ j=>j<w.heap.size/\j≠b/\j≠mb) w3 p.fns (.slice fa p.fns.length fc):=by
  obtain⟨row,h1,h2⟩:=hfn;exact⟨row,h1.since b6,h2.since b6⟩
 have au:Fj (λ j=>j<w3.heap.size/\j≠b/\j≠mb) w3 p.fns (.slice fa p.fns.length fc):=Lf b4 bn;have aq:A7 w3 mb []:=henv.since (ak.block mb hm (by omega));have cm:=Xw (num:=0) b0 aq hbm bj au hsh.l1 hsh.l2 hsh.n1 hsh.n2;rw[hV.out] at cm;have c7:∀e,(Ck.bind (Ck.states [] 0 p.states) λ e1=>Ck.fns e1 0 p.fns)=.inl e->Do e/\∀x∈e,x.2.type.length<=1000:=λ e h=>by
  obtain⟨e1,h1,h2⟩:=An h;obtain⟨a1,a2⟩:=Le p.states [] e1 0 (λ s hs=>(hsh.n1 s hs).2) (λ x hx=>by cases hx) (λ x hx=>by cases hx) h1;exact Vz p.fns e1 e 0 a1 a2 h2
 replace c7:=Bw c7;generalize (Ck.bind (Ck.states [] 0 p.states) λ e1=>Ck.fns e1 0 p.fns)=C at *;have e9:b<w3.heap.size:=by omega
 obtain⟨e0,e1,e2,-⟩:=Ar cg;have dl:w.heap.size<w3.heap.size:=by omega
 clear bj au aq hst hfn a8 cu;go_wp2_with fail;refine cm.mono ?_;rintro e w5 hP;clear cm d0 d1 d2 e0 e1 e2 g0 f0;rcases C with env | ⟨a,er⟩
 rotate_left
 .obtain⟨ch,hF⟩:=hP;obtain rfl:=ch;have a0:Hc b mb V w R (.panicked (Af a er)) w5:=by
   rw[ci.out];exact⟨rfl,ak.trans hF (λ j _ e=>AI e) (λ _ _ h=>h)⟩
  exact⟨rfl,a0⟩
 obtain⟨rfl,ss,fs,a5,aa,al,ai,c1⟩:=hP;obtain⟨dm,dw⟩:=c7.out env rfl;have dt:=c1.size;have b5:Fm (λ j=>j=b\/j=mb) w w5:=ak.trans c1 (λ j _ e=>AI e) (λ _ _ h=>h);have dq:=(c1.block _ dl (by rintro (e | e) <;> omega)).trans cg;obtain⟨d0,d1,d2,-⟩:=Ar dq;have ed:w.heap.size<w5.heap.size:=by omega
 have bo:Hid (R=Ck.bind (Ck.bodies (p.fns.map Ck.hd) env 0 p.fns) λ fs=>.inl ⟨p.version,Ck.slots p.states,fs⟩):=ci.out;have bg:Fj (λ j=>j<w.heap.size/\j≠b/\j≠mb) w5 p.fns (.slice fa p.fns.length fc):=by
  obtain⟨row,h1,h2⟩:=b4;have d4:Since (λ j=>j<w.heap.size/\j≠b/\j≠mb) w3 w5:=c1.since (λ j hj e=>by rcases e with e | e;exact hj.2.1 e;exact hj.2.2 e);exact⟨row,h1.since d4,h2.since d4⟩
 clear ci b4 c7 cg b0;rcases Nat.eq_zero_or_pos p.fns.length with hz | hpos
 .have hn:p.fns=[]:=length_eq_zero_iff.1 hz;have a0:Hc b mb V w R (.returned (.tuple #[])) w5:=by
   rw[bo.out,hn];refine⟨rfl,ss,fs,0,_,a5,BD al (λ j hj _=>by have:w3.heap.size<=j:=hj.1;show w.heap.size<=j;omega),?_,hV.out,b5⟩;rw[hn] at ai;obtain⟨row,h1,h2⟩:=ai.row;exact⟨row,h1.base' (λ j hj _=>by have:w3.heap.size<=j:=hj;show w.heap.size<=j;omega),h2.base (λ j hj _=>by have:w3.heap.size<=j:=hj;show w.heap.size<=j;omega)⟩
  have eh:(p.fns.length:Int)=0:=by omega
  rw[hz] at d2;clear ai al a5 aa bg bo hn hz;go_wp2_with fail
  go_loopg [37] 0 (λ gh i wz=>i=iv 0/\wz=w5)
  case atStart=>exact⟨rfl,rfl⟩
  case round=>
   obtain⟨rfl,rfl⟩:=hrel;go_wp2_with fail;exact bodyPost_end (results_none rfl _ _ _) rfl a0
 obtain⟨gf,ab,bl,rfl,e8,ad,ae,aj,bp⟩:=ai.arr (by simpa using hpos);have bw:(p.fns.map Eb).length=p.fns.length:=by simp
 rw[bw] at a5 al ae;have e6:w3.heap.size<=gf:=e8;obtain⟨A,HA⟩:∃A:Ck.R (List CF),Hid (Ck.bodies (p.fns.map Ck.hd) env 0 p.fns=A):=⟨_,rfl⟩;rw[HA.out] at bo;have d7:Hid (PI b mb gf p.fns.length ab w.heap.size V ss env (p.fns.map Ck.hd) w5 p.fns A 0 0 [] sZ bl w5):=⟨a5,aa,ad,by
  rw[nil_append,drop_zero];exact bp.base (λ j hj _=>⟨by have:w3.heap.size<=j:=hj.1;omega,hj.2⟩),rfl,rfl,Fm.refl _ _,by
  rw[drop_zero,HA.out];rcases A with x | e <;> rfl⟩
 have cd:=λ (j:Nat) (f:Px.Fn) (hj:p.fns[j]?=some f)=>Vy bg hj
 replace cd:=Bw cd;have dh:gf<w5.heap.size:=(AB ad).1;clear ai bp ad aa HA bg;go_wp2_with fail;clear d0 d1 d2
 go_loopg [37] p.fns.length (λ gh ii wr=>∃q num acc la ln lc cur,q<=p.fns.length/\gh=p.fns.length - q/\ii=iv q/\Hid (PI b mb gf p.fns.length ab w.heap.size V ss env (p.fns.map Ck.hd) w5 p.fns A q num acc (.slice la ln lc) cur wr))
 case atStart=>exact⟨0,0,[],none,0,0,bl,AO _,rfl,rfl,d7⟩
 case round=>
  clear d7;obtain⟨q,num,acc,la,ln,lc,cur,hq,rfl,rfl,HI⟩:=hrel;have cp:=HI.out.fm.size;by_cases hlt:q<p.fns.length
  .have cw:(q:Int)<(p.fns.length:Int):=by omega
   have ef:(0:Int)<=(q:Int):=by omega
   obtain⟨f,bt⟩:∃f,p.fns[q]?=some f:=⟨_,AN hlt⟩;obtain⟨ga,oa,ca,pa,ba,pc,bc,ea,bb,eg,a3,bi⟩:=cd.out q f bt;simp only[Value.slice.injEq] at ea;obtain⟨rfl,-,rfl⟩:=ea;have da:=mem_of_getElem? bt;have be:∀j,j<w.heap.size->j≠b->j≠mb->wr.heap[j]?=w5.heap[j]?:=λ j h1 h2 h3=>HI.out.fm.block j (by omega) (by rintro (e | e | e) <;> omega)
   have a4:=be ga bb.1 bb.2.1 bb.2.2;have u0:wr.cell? ⟨ga,oa+q*7,none⟩=some (strV f.name):=(Ak a4).trans (a3 0 _ rfl);have u1:=(Ak a4).trans (a3 1 _ rfl);have u2:=(Ak a4).trans (a3 2 _ rfl);have u3:=(Ak a4).trans (a3 3 _ rfl);have u4:=(Ak a4).trans (a3 4 _ rfl);have u5:=(Ak a4).trans (a3 5 _ rfl);have u6:=(Ak a4).trans (a3 6 _ rfl);have dz:ga<wr.heap.size:=by omega
   obtain⟨w7,d9⟩:∃w7,wr.alloc (.cells #[sE,.bool false,sZ,sE,sZ,sZ,iv 0] 36)=w7:=⟨_,rfl⟩;obtain⟨w6,d3⟩:∃w6,((((((w7.setCell ⟨wr.heap.size,0,none⟩ (strV f.name)).setCell ⟨wr.heap.size,1,none⟩ (.bool f.on)).setCell ⟨wr.heap.size,2,none⟩ (.slice pa f.params.length pc)).setCell ⟨wr.heap.size,3,none⟩ (strV f.result)).setCell ⟨wr.heap.size,4,none⟩ sZ).setCell ⟨wr.heap.size,5,none⟩ (.slice ba f.body.length bc)).setCell ⟨wr.heap.size,6,none⟩ (iv f.place)=w6:=⟨_,rfl⟩;have dj:Below wr.heap.size wr w7:=by rw[<-d9];exact (AF _ _).alloc (AD _) _
   have c6:w7.heap[wr.heap.size]?=some (.cells #[sE,.bool false,sZ,sE,sZ,sZ,iv 0] 36 (0,0)):=by rw[<-d9];exact heap_new _ _
   have l7:wr.heap.size<w7.heap.size:=(AB c6).1;have b9:Below wr.heap.size wr w6:=by
    rw[<-d3];exact ((((((dj.setCell (p:=⟨wr.heap.size,0,none⟩) (AD _) _).setCell (p:=⟨wr.heap.size,1,none⟩) (AD _) _).setCell (p:=⟨wr.heap.size,2,none⟩) (AD _) _).setCell (p:=⟨wr.heap.size,3,none⟩) (AD _) _).setCell (p:=⟨wr.heap.size,4,none⟩) (AD _) _).setCell (p:=⟨wr.heap.size,5,none⟩) (AD _) _).setCell (p:=⟨wr.heap.size,6,none⟩) (AD _) _
   have cr:w6.heap[wr.heap.size]?=some (.cells #[strV f.name,.bool f.on,.slice pa f.params.length pc,strV f.result,sZ,.slice ba f.body.length bc,iv f.place] 36 (0,0)):=by rw[<-d3];simp[World.setCell,Array.getElem?_modify,c6]
   have l6:wr.heap.size<w6.heap.size:=(AB cr).1;obtain⟨y0,y1,y2,y3,y4,y5,y6,z0,z1,z2,z3,z4,z5,z6⟩:=Be c6;obtain⟨e7,dx,dn,e5,dy,dr,e3,-⟩:=Be cr;have eb:=b9.size;have az:=(b9.block b (by omega)).trans HI.out.blk;have b3:A7 w6 mb env:=HI.out.env.since (b9.block mb (by omega));have ah:=(b9.block gf (by omega)).trans HI.out.row;have cj:(acc ++ (p.fns.drop q).map Eb).length=p.fns.length:=by simp[HI.out.len];omega
   have a7:=HI.out.fns.since (w':=w6) (Since.of_below b9);have ag:(acc ++ (p.fns.drop q).map Eb).map H4=p.fns.map Ck.hd:=by
    rw[map_append,HI.out.hd,map_map,show (H4 ∘ Eb)=Ck.hd from funext Ae3,<-map_append,take_append_drop]
   have bf:=(a7.base (B':=λ j=>j<w6.heap.size/\j≠b/\j≠mb) (λ j hj hl=>⟨hl,by have:=hj.1;omega,by have:=hj.1;omega⟩)).hds ah ⟨by omega,by omega,by omega⟩ (by rw[cj];exact ae) aj;rw[ag,cj] at bf;have br:p.fns.length*7<=cur.size:=by have:=a7.1;rw[cj] at this;exact this
   have av:Eh (λ j=>j<w6.heap.size/\j≠b/\j≠mb/\j≠gf) w6 f [strV f.name,.bool f.on,.slice pa f.params.length pc,strV f.result,sZ,.slice ba f.body.length bc,iv f.place]:=by
    have bk:Since (λ j=>j<w.heap.size/\j≠b/\j≠mb) w5 w6:=⟨by omega,λ j hj hl=>(b9.block j (by omega)).trans (be j hj.1 hj.2.1 hj.2.2)⟩;obtain⟨ps,bs,dv,m1,row2,m2,m3⟩:=bi;exact⟨ps,bs,dv,SlRow.base (SlRow.since m1 bk) (λ j hj=>⟨by omega,hj.2.1,hj.2.2,by omega⟩),row2,(m2.since bk).base (λ j hj=>⟨by omega,hj.2.1,hj.2.2,by omega⟩),(m3.since bk).base (λ j hj=>⟨by omega,hj.2.1,hj.2.2,by omega⟩)⟩
   obtain⟨d5,d8,dd⟩:=hsh.sh f da;have de:(p.fns.map Ck.hd)[q]?=some (Ck.hd f):=by rw[List.getElem?_map,bt];rfl
   have dk:KOk ⟨q,p.fns.map Ck.hd,f.result⟩ env:=⟨dm,dw,λ h hh=>(by obtain⟨g,hg,rfl⟩:=mem_map.1 hh;exact (hsh.n2 g hg).2.1),λ h hh t ht=>(by
    obtain⟨g,hg,rfl⟩:=mem_map.1 hh;obtain⟨s,hs,rfl⟩:=mem_map.1 ht;exact ((hsh.n2 g hg).2.2.2 s hs).2),by simp;omega,⟨_,de,rfl⟩⟩
   have db:=Pb (At9 d5 d8 dd) az b3 ah br bf (by simp) ⟨ae,aj⟩ hlt de av dk (λ s hs=>((hsh.n2 f da).2.2.2 s hs).2) hbm (by omega) (by omega);have a6:p.fns.drop q=f :: p.fns.drop (q+1):=by
    obtain⟨hi,rfl⟩:=AK bt;exact drop_eq_getElem_cons hi
   have co:Hid (A=Ck.bind (Ck.fn (p.fns.map Ck.hd) env q f) λ x=>Ck.bind (Ck.bodies (p.fns.map Ck.hd) env (q+1) (p.fns.drop (q+1))) λ xs=>.inl (acc ++ (x :: xs))):=by
    show _=_;rw[HI.out.ans,a6,Ck.bodies,D9];refine Ak6 _ (λ x=>?_);rw[D9];rfl
   have c4:=λ x=>Ae2 (hs:=p.fns.map Ck.hd) (env:=env) (i:=q) (f:=f) (x:=x)
   have c5:=λ x=>Ar1 (hs:=p.fns.map Ck.hd) (env:=env) (i:=q) (f:=f) (x:=x)
   replace c4:=Bw c4;replace c5:=Bw c5;generalize Ck.fn (p.fns.map Ck.hd) env q f=D at *;have b8:Fm (Rq b mb gf) w5 w6:=HI.out.fm.trans (Fm.of_below (X:=λ _=>False) b9) (λ _ _ h=>h) (λ _ _ h=>h.elim);replace a7:=Bw a7;clear be a4 c6 dj cr az b3 ah bf av bi a3 dk d5 d8 dd ag;go_wp2_with fail;refine db.mono ?_;rintro e w8 hP;clear db e7 dx dn e5 dy dr e3 u0 u1 u2 u3 u4 u5 u6 y0 y1 y2 y3 y4 y5 y6 z0 z1 z2 z3 z4 z5 z6;rcases D with x | ⟨a,er⟩
   rotate_left
   .obtain⟨ch,hF⟩:=hP;obtain rfl:=ch;have a0:Hc b mb V w R (.panicked (Af a er)) w8:=by
     rw[bo.out,co.out];exact⟨rfl,b5.trans (b8.trans hF (λ _ _ h=>h) (λ _ _ h=>h)) (λ _ _ h=>h) (λ j _ e=>by
      rcases e with e | e | e
      .exact AI e
      .exact AJ e
      .omega)⟩
    exact⟨rfl,a0⟩
   obtain⟨ec,a9,c9,rfl,am,ax,ar,af,ay,c3⟩:=hP;obtain⟨cf,cc,rfl,-,-⟩:=SlRow.val af;have ce:=c3.size;have cv:Hid (PI b mb gf p.fns.length ab w.heap.size V ss env (p.fns.map Ck.hd) w5 p.fns A (q+1) q (acc ++ [x]) (.slice cf x.locals.length cc) ((cur.setIfInBounds (q*7+5) (.slice a9 x.body.length c9)).setIfInBounds (q*7+4) (.slice cf x.locals.length cc)) w8):=by
    have ct:∀{wx:World} j,From w6.heap.size j->j<wx.heap.size->(w.heap.size<=j/\j≠gf):=λ {wx} j hj _=>⟨by have:w6.heap.size<=j:=hj;omega,by have:w6.heap.size<=j:=hj;omega⟩
    have bk:Since (λ j=>w.heap.size<=j/\j≠gf) w6 w8:=⟨ce,λ j hj hl=>c3.block j hl (by rintro (e | e | e);omega;omega;exact hj.2 e)⟩;have hi:(acc ++ (p.fns.drop q).map Eb)[q]?=some (Eb f):=by
     rw[List.getElem?_append_right (by rw[HI.out.len];exact Nat.le_refl _),HI.out.len,Nat.sub_self,a6];rfl
    have bx:=a7.out.put (lv:=.slice cf x.locals.length cc) (bv:=.slice a9 x.body.length c9) bk hi (c4.out x rfl) (BD af ct) (by
     obtain⟨row,h1,h2⟩:=ay;exact⟨row,h1.base' ct,h2.base ct⟩)
    have cl:(acc ++ (p.fns.drop q).map Eb).set q x=(acc ++ [x]) ++ (p.fns.drop (q+1)).map Eb:=by
     rw[set_append_right _ _ (by rw[HI.out.len];exact Nat.le_refl _),HI.out.len,Nat.sub_self,a6];simp
    rw[cl] at bx;refine⟨am,ax,ar,bx,by rw[length_append,HI.out.len];rfl,?_,b8.trans c3 (λ _ _ h=>h) (λ _ _ h=>h),?_⟩
    .rw[map_append,HI.out.hd,take_add_one,bt,map_append];show _ ++ [H4 x]=_ ++ [Ck.hd f];rw[c5.out x rfl]
    .rw[co.out];simp only[Ck.bind,append_assoc,singleton_append]
   clear am ax ar af ay c3 b8 co c4 c5 a7 HI a6;go_wp2_with fail;go_roundg (p.fns.length - (q+1))
   case measure=>omega
   case rel=>exact⟨q+1,q,acc ++ [x],_,_,_,_,by omega,rfl,by go_num,cv⟩
  .have cw:¬(q:Int)<(p.fns.length:Int):=by omega
   have a0:Hc b mb V w R (.returned (.tuple #[])) wr:=by
    have hA:A=.inl acc:=by
     rw[HI.out.ans,drop_of_length_le (by omega)];show Sum.inl (acc ++ [])=_;rw[append_nil]
    have hl:=HI.out.len;have ee:q=p.fns.length:=by omega
    have di:=HI.out.fns;rw[drop_of_length_le (by omega),map_nil,append_nil] at di;rw[bo.out,hA];have d6:=(di.base (B':=From w.heap.size) (λ j hj _=>hj.1)).fns HI.out.row (by show w.heap.size<=gf;omega) (cap:=ab) (by omega) aj;have cz:acc.length=p.fns.length:=by omega
    rw[cz] at d6;refine⟨rfl,ss,sL gf 0 p.fns.length ab,num,_,HI.out.blk,?_,d6,hV.out,b5.trans HI.out.fm (λ _ _ h=>h) (λ j _ e=>by
     rcases e with e | e | e
     .exact AI e
     .exact AJ e
     .omega)⟩
    have h9:=SlRow.since al (w':=wr) ⟨cp,λ j hj hl=>HI.out.fm.block j hl (by
     have:w3.heap.size<=j:=hj.1;rintro (e | e | e)
     .omega
     .omega
     .exact hj.2 (by rw[e];rfl))⟩
    exact BD h9 (λ j hj _=>by have:w3.heap.size<=j:=hj.1;show w.heap.size<=j;omega)
   clear HI;go_wp2_with fail;exact bodyPost_end (results_none rfl _ _ _) rfl a0
end
end Go.Proofs.YtpckmjfabiallaaGreatDoor
