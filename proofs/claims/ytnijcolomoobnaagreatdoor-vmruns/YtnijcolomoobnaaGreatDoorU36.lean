/- Texts of ours, joined. -/
import Derived.Test.YtnijcolomoobnaaGreatDoorU33
import Derived.Laws.CopyOwn
set_option linter.unusedVariables false
set_option linter.unusedSimpArgs false
set_option maxRecDepth 100000
set_option maxHeartbeats 16000000
namespace Go.Proofs.YtnijcolomoobnaaGreatDoor
section
open Go.RowKit
attribute [local go_sem ↓] Go.wp_at_zero Go.wp_at_succ
theorem Qo(n:Nat)(hn:n<=1000000)(w:World):Calls Tryz.prog 134 #[.int .u64 1,.int .u64 n] w fun e w'=>e=.returned (.tuple #[.int .u64 0,.int .u64 n])∧w'=w:=by
 have h1:bits .and .u64 (1:Int) 4294967295=1:=by kernel_rfl
 have h0:bits .and .u64 (0:Int) 4294967295=0:=by kernel_rfl
 have hN:bits .and .u64 (n:Int) 4294967295=(n:Int):=by
  have h:=bits_and_u64_nat n 4294967295 (by omega) (by omega);have e:n &&& 4294967295=n % 4294967296:=Nat.and_two_pow_sub_one_eq_mod n 32;rw[e,Nat.mod_eq_of_lt (by omega)] at h;exact h
 have hd:(n:Int) / 4294967296=0:=by omega
 have hw:IntKind.u64.wrap (n:Int)=(n:Int):=by rw[IntKind.wrap_u64];omega
 have hw0:IntKind.u64.wrap 0=0:=by rw[IntKind.wrap_u64];rfl
 go_enter Tryz.func134,Tryz.ntmps134;go_wp2
 go_ret2
 exact⟨rfl,rfl⟩
theorem Mj(n:Nat)(hn:n<=1000000)(w:World):Calls Tryz.prog 100 #[.int .u64 1,.int .u64 n] w fun e w'=>e=.returned (.tuple #[.int .u64 0,.int .u64 n])∧w'=w:=by
 have hC:=Qo n hn w;go_enter Tryz.func100,Tryz.ntmps100;go_wp2_with (go_at_call 134;refine hC.mono ?_;rintro e w' ⟨rfl,hw⟩;rw[hw])
 go_ret2
 exact⟨rfl,rfl⟩
theorem J6(w:World)(g o dLen dCap:Nat)(a:Addr)(sLen sCap:Nat)(cur:Array Value)(t:TypeId)(cs:List Value)(hg:w.heap[g]?=some (.cells cur t (0,0)))(hn:cs.length=Nat.min sLen dLen*4)
  (hsrc:∀j v,cs[j]?=some v->w.cell? (a.add j)=some v) (hfit:o+cs.length<=cur.size) (h1:∀v∈cs,v.oneCell'=true) :
  (Builtin.copy_ #[22,22] 3 #[sL g o dLen dCap,.slice (some a) sLen sCap]).run Tryz.prog w =
   .ok (goInt (Nat.min sLen dLen)) (w.setRow g (cur.toList.take o ++ cs ++ cur.toList.drop (o+cs.length)).toArray):=by
 have hl:=run_loadCells_list (P:=Tryz.prog) w a cs hsrc;have hst:=run_storeCells_at Tryz.prog g o t cs 0 cur w hg (by simpa using hfit) h1;have hs:(Tryz.prog.info? 31).map (fun i=>(i.zero,i.size,i.bytes))=some (some (.agg #[iv 0,iv 0,.string ⟨#[]⟩,sZ]),4,56):=by kernel_rfl
 rcases hq:Tryz.prog.info? 31 with _ | i
 ·rw[hq] at hs;cases hs
 ·have hi:i.size=4:=by
   rw[hq] at hs;simp at hs;exact hs.2.1
  simp[Builtin.copy_,run_underlying Tryz.underlying22,Builtin.lenOf,Builtin.firstCells,sizeOf,typeInfo,hq,hi,<-hn,hl,hst]
def rowN(n:Nat):List Value:=(List.replicate n [iv 1,iv 0,.string ⟨#[]⟩,sZ]).flatten
theorem Bs(n:Nat):(rowN n).length=n*4:=by
 unfold rowN;induction n with
 | zero=>rfl
 | succ n ih=>rw[List.replicate_succ,List.flatten_cons,List.length_append,ih];simp;omega
theorem Iz(a b:Nat):rowN (a+b)=rowN a ++ rowN b:=by unfold rowN;rw[<-List.replicate_append_replicate,List.flatten_append]
theorem Mk(n:Nat):∀v∈rowN n,v.oneCell'=true:=by
 intro v hv;unfold rowN at hv;obtain⟨l,hl,hv⟩:=List.mem_flatten.1 hv;obtain⟨-,rfl⟩:=List.mem_replicate.1 hl;simp at hv;rcases hv with rfl | rfl | rfl | rfl <;> rfl
theorem Qp{w:World}{g k n:Nat}{rest:List Value}(hg:w.heap[g]?=some (.cells (rowN k ++ rest).toArray 31 (0,0)))(hr:rest.length=(n - k)*4)(hk:k<n)(h0:0<k) :
  ∃m w' rest',0<m∧k+m<=n∧(Builtin.copy_ #[22,22] 3 #[sL g (k*4) (n - k) (n - k),sL g 0 k n]).run Tryz.prog w=.ok (iv (m:Int)) w'∧w'.heap[g]?=some (.cells (rowN (k+m) ++ rest').toArray 31 (0,0))∧rest'.length=(n - (k+m))*4∧∀B,B<=g->Below B w w':=by
 have hm:Nat.min k (n - k)<=k∧Nat.min k (n - k)<=n - k∧0<Nat.min k (n - k):=⟨Nat.min_le_left _ _,Nat.min_le_right _ _,Nat.lt_min.2 ⟨h0,by omega⟩⟩;have hrun:=J6 w g (k*4) (n - k) (n - k) ⟨g,0,none⟩ k n (rowN k ++ rest).toArray 31 (rowN (Nat.min k (n - k))) hg (Bs _) (fun j v hv=>by
  have hlt:=(List.getElem?_eq_some_iff.1 hv).1;rw[Bs] at hlt;have e:(⟨g,0,none⟩:Addr).add j=⟨g,j,none⟩:=by simp[Addr.add];omega
  rw[e,cell_block hg];have hd:rowN k=rowN (Nat.min k (n - k)) ++ rowN (k - Nat.min k (n - k)):=by rw[<-Iz];congr 1;omega
  simp only[List.getElem?_toArray];rw[hd,List.append_assoc,List.getElem?_append_left (by rw[Bs];omega)];exact hv) (by rw[Bs];simp[Bs];omega) (Mk _)
 generalize Nat.min k (n - k)=m at *;refine⟨m,_,rest.drop (m*4),hm.2.2,by omega,hrun,?_,by simp;omega,fun B hB=>below_setRow (Below.refl _ _) hB _⟩;rw[setRow_heap w g _ _ 31 _ hg];refine congrArg (fun l:List Value=>some (Obj.cells l.toArray 31 (0,0))) ?_;rw[Iz,Bs];simp only[List.toList_toArray];rw[List.take_left' (by rw[Bs]),List.drop_append,List.append_assoc,List.append_assoc,List.drop_of_length_le (by rw[Bs];omega),Bs,Nat.add_sub_cancel_left,List.nil_append]
theorem N5{gs n:Nat}{w:World}(hn:n<=300)(hs:w.heap[gs]?=some (.cells #[iv 1,iv 0,.string ⟨#[]⟩,sZ] 31 (0,0))):Calls Tryz.prog 64 #[sL gs 0 1 1,iv (n:Int)] w fun r w'=>(∃g,r=.returned (sL g 0 n n)∧w.heap.size<=g∧w'.heap[g]?=some (.cells (rowN n).toArray 31 (0,0)))∧Below w.heap.size w w':=by
 obtain⟨arr0,ha0,hmk⟩:=L6 n (by omega);have hM:=Mj n (by omega) w;have hu1:IntKind.u64.wrap 1=1:=by rw[IntKind.wrap_u64];rfl
 have hun:IntKind.u64.wrap (n:Int)=(n:Int):=by rw[IntKind.wrap_u64];omega
 have hin:IntKind.i64.wrap (n:Int)=(n:Int):=by rw[IntKind.wrap_i64];omega
 have hn0:¬(n:Int)<0:=by omega
 have hnI:(n:Int)<=9223372036854775807:=by omega
 obtain⟨w1,hW1⟩:∃w1,w.alloc (.cells arr0 31)=w1:=⟨_,rfl⟩;have hmk1:=hmk w;rw[hW1] at hmk1;have hb1:Below w.heap.size w w1:=by rw[<-hW1];exact (Below.refl _ _).alloc (Nat.le_refl _) _
 have hx1:w1.heap[w.heap.size]?=some (.cells arr0 31 (0,0)):=by rw[<-hW1];exact Ai _ _
 have hgs:=(Array.getElem?_eq_some_iff.1 hs).1;have hs1:w1.heap[gs]?=_:=(hb1.block _ hgs).trans hs;have hfirst:∃(k:Nat) (w2:World) (rest:List Value),(Builtin.copy_ #[22,22] 3 #[sL w.heap.size 0 n n,sL gs 0 1 1]).run Tryz.prog w1=.ok (iv (k:Int)) w2∧k<=n∧(0<n->0<k)∧w2.heap[w.heap.size]?=some (.cells (rowN k ++ rest).toArray 31 (0,0))∧rest.length=(n - k)*4∧Below w.heap.size w w2:=by
  have hm:Nat.min 1 n<=1∧Nat.min 1 n<=n∧(0<n->0<Nat.min 1 n):=⟨Nat.min_le_left _ _,Nat.min_le_right _ _,fun h=>Nat.lt_min.2 ⟨by omega,h⟩⟩;have hrun:=J6 w1 w.heap.size 0 n n ⟨gs,0,none⟩ 1 1 arr0 31 (rowN (Nat.min 1 n)) hx1 (Bs _) (fun j v hv=>by
   have e:(⟨gs,0,none⟩:Addr).add j=⟨gs,j,none⟩:=by simp[Addr.add];omega
   rw[e,cell_block hs1];have h2:Nat.min 1 n=0∨Nat.min 1 n=1:=by omega
   rcases h2 with h2 | h2
   ·rw[h2] at hv;simp[rowN] at hv
   ·rw[h2] at hv;simpa [rowN] using hv) (by rw[Bs];omega) (Mk _)
  refine⟨Nat.min 1 n,_,arr0.toList.drop (Nat.min 1 n*4),hrun,hm.2.1,hm.2.2,?_,by simp;omega,hb1.trans (below_setRow (Below.refl _ _) (Nat.le_refl _) _)⟩;rw[setRow_heap w1 w.heap.size _ _ 31 _ hx1,Bs];simp
 obtain⟨k,w2,rest,hr2,hk,hk0,hx2,hrest,hb2⟩:=hfirst;have Hk0:Hid (0<n->0<k):=hk0;have Hrest:Hid (rest.length=(n - k)*4):=hrest;clear hmk ha0 hs hs1 hx1 hW1 hb1 hk0 hrest;go_enter Tryz.func64,Tryz.ntmps64;go_wp2_with fail;refine hM.mono ?_;rintro e w' ⟨rfl,hw⟩;obtain rfl:=hw.symm;clear hM;go_wp2_with fail
 go_loopg [8] (n - k) (fun gm i wr=>∃(j:Nat) (rst:List Value),j<=n∧(0<n->0<j)∧gm=n - j∧i=iv (j:Int)∧Hid (wr.heap[w.heap.size]?=some (.cells (rowN j ++ rst).toArray 31 (0,0))∧rst.length=(n - j)*4)∧Below w.heap.size w wr)
 case atStart=>exact⟨k,rest,hk,Hk0.out,rfl,rfl,⟨hx2,Hrest.out⟩,hb2⟩
 case round=>
  clear hr2 hx2 hb2 Hk0 Hrest hmk1;obtain⟨j,rst,hj,hj0,rfl,rfl,HX,hBr⟩:=hrel;by_cases hlt:j<n
  ·have hltI:(j:Int)<(n:Int):=by omega
   have hjp:0<j:=hj0 (by omega);obtain⟨m,w4,rst',hm0,hmn,hrun,hx4,hr4,hB4⟩:=Qp (w:=wr.drew) HX.out.1 HX.out.2 hlt hjp;have hB4':Below w.heap.size w w4:=(hBr.trans ((Af wr 1).mono hBr.size)).trans (hB4 _ (Nat.le_refl _));have HX4:Hid (w4.heap[w.heap.size]?=some (.cells (rowN (j+m) ++ rst').toArray 31 (0,0))∧rst'.length=(n - (j+m))*4):=⟨hx4,hr4⟩;have r1:=fun wx=>Hv (some ⟨w.heap.size,0,none⟩) n n j hj wx
   have r2:=fun wx=>F5 (some ⟨w.heap.size,0,none⟩) n n j hj wx
   rw[Ec hlt] at r1;have hadd:IntKind.i64.wrap ((j:Int)+(m:Int))=(j:Int)+(m:Int):=by rw[IntKind.wrap_i64];omega
   clear HX hx4 hr4 hB4 hBr hj0;go_wp2_with fail;refine wpE_begin (S:=fun w'=>True∧True) (N:=fun j=>decide (j<10)) (by kernel_rfl) ?_;have hS0:True∧True:=⟨trivial,trivial⟩;refine Ah (some 38) (fun j=>[8,9].contains j) (i:=0) (v:=iv (j:Int)) rfl rfl (by kernel_rfl) (by kernel_rfl) (by kernel_rfl) (by kernel_rfl) (fun j hj=>by simp at hj;show j<10;omega) (fun _ _ _ h=>h) rfl (fun wq hS=>by go_simp) hS0 ?_
   try simp only[aP]
   refine Ah (some 39) (fun j=>[3,7,8,9].contains j) (i:=1) (v:=sL w.heap.size 0 n n) rfl rfl (by kernel_rfl) (by kernel_rfl) (by kernel_rfl) (by kernel_rfl) (fun j hj=>by simp at hj;show j<10;omega) (fun _ _ _ h=>h) rfl (fun wq hS=>by go_simp) hS0 ?_
   try simp only[aP]
   refine Ah (some 40) (fun j=>[3,7,8,9].contains j) (i:=2) (v:=iv (j:Int)) rfl rfl (by kernel_rfl) (by kernel_rfl) (by kernel_rfl) (by kernel_rfl) (fun j hj=>by simp at hj;show j<10;omega) (fun _ _ _ h=>h) rfl (fun wq hS=>by go_simp) hS0 ?_
   try simp only[aP]
   refine Ah (some 41) (fun j=>[7,8,9].contains j) (i:=3) (v:=sL w.heap.size (j*4) (n - j) (n - j)) rfl rfl (by kernel_rfl) (by kernel_rfl) (by kernel_rfl) (by kernel_rfl) (fun j hj=>by simp at hj;show j<10;omega) (fun _ _ _ h=>h) rfl (fun wq hS=>by go_simp) hS0 ?_
   try simp only[aP]
   refine Ah (some 42) (fun j=>[6,7,8,9].contains j) (i:=4) (v:=sL w.heap.size 0 n n) rfl rfl (by kernel_rfl) (by kernel_rfl) (by kernel_rfl) (by kernel_rfl) (fun j hj=>by simp at hj;show j<10;omega) (fun _ _ _ h=>h) rfl (fun wq hS=>by go_simp) hS0 ?_
   try simp only[aP]
   refine Ah (some 43) (fun j=>[6,7,8,9].contains j) (i:=5) (v:=iv (j:Int)) rfl rfl (by kernel_rfl) (by kernel_rfl) (by kernel_rfl) (by kernel_rfl) (fun j hj=>by simp at hj;show j<10;omega) (fun _ _ _ h=>h) rfl (fun wq hS=>by go_simp) hS0 ?_
   try simp only[aP]
   refine Ah (some 44) (fun j=>[7,8,9].contains j) (i:=6) (v:=sL w.heap.size 0 j n) rfl rfl (by kernel_rfl) (by kernel_rfl) (by kernel_rfl) (by kernel_rfl) (fun j hj=>by simp at hj;show j<10;omega) (fun _ _ _ h=>h) rfl (fun wq hS=>by go_simp) hS0 ?_
   try simp only[aP]
   refine Ac (i:=7) (by kernel_rfl) rfl rfl (fun K hK=>?_);go_simp;refine hK _ _ (fun _=>⟨trivial,trivial⟩) ?_;clear hK K
   try simp only[aP]
   refine Ah (some 46) (fun j=>[9].contains j) (i:=8) (v:=iv ((j:Int)+(m:Int))) rfl rfl (by kernel_rfl) (by kernel_rfl) (by kernel_rfl) (by kernel_rfl) (fun j hj=>by simp at hj;show j<10;omega) (fun _ _ _ h=>h) rfl (fun wq hS=>by go_simp) hS0 ?_
   try simp only[aP]
   refine Ah (some 8) (fun j=>[].contains j) (i:=9) (v:=iv ((j:Int)+(m:Int))) rfl rfl (by kernel_rfl) (by kernel_rfl) (by kernel_rfl) (by kernel_rfl) (fun j hj=>by simp at hj) (fun _ _ _ h=>h) rfl (fun wq hS=>by go_simp) hS0 ?_
   try simp only[aP]
   refine Am (by kernel_rfl) ?_;simp only[Exit.inBlock,Exit.then];refine ‹∀(a:Act) (w:World),_->_› _ _ ?_;go_roundg (n - (j+m))
   case measure=>omega
   case rel=>exact⟨j+m,rst',hmn,fun _=>by omega,rfl,by go_num,HX4,hB4'⟩
  ·have hltI:¬(j:Int)<(n:Int):=by omega
   obtain rfl:j=n:=by omega
   have hfin:Hid (wr.heap[w.heap.size]?=some (.cells (rowN j).toArray 31 (0,0))):=by
    obtain⟨h1,h2⟩:=HX.out;have:rst=[]:=List.eq_nil_of_length_eq_zero (by omega);rw[this,List.append_nil] at h1;exact h1
   clear HX hj0;go_wp2;go_ret;exact⟨⟨_,rfl,Nat.le_refl _,hfin.out⟩,hBr⟩
def C2(B:Nat->Prop)(w:World)(l:List V)(a:Option Addr)(c:Nat):Prop:=∃nrow:List Value,nrow.length=l.length*4∧An B w l nrow∧(a=none->l.length=0∧c=0)∧∀b,a=some b->∀(j:Nat) (u:Value),nrow[j]?=some u->w.cell? (b.add j)=some u
theorem C2.of{B:Nat->Prop}{w:World}{l:List V}{a:Option Addr}{n c:Nat}(h:Al B w l (.slice a n c)):C2 B w l a c:=h.news
theorem Pk{w:World}{b:Addr}{u:Value}(h:w.cell? b=some u):b.block<w.heap.size:=by
 rcases hb:w.heap[b.block]? with _ | o
 ·simp[World.cell?,hb] at h
 ·exact (Array.getElem?_eq_some_iff.1 hb).1
theorem C2.below{B:Nat->Prop}{w w':World}{l:List V}{a:Option Addr}{c:Nat}(h:C2 B w l a c)(hb:Below w.heap.size w w'):C2 B w' l a c:=by
 obtain⟨nrow,h1,h2,h3,h4⟩:=h;exact⟨nrow,h1,h2.since (Since.of_below hb),h3,fun b e j u hu=>by rw[World.cell?_of_block (hb.block _ (Pk (h4 b e j u hu)))];exact h4 b e j u hu⟩
theorem C2.base{B B':Nat->Prop}{w:World}{l:List V}{a:Option Addr}{c:Nat}(h:C2 B w l a c)(hb:∀k,B k->k<w.heap.size->B' k):C2 B' w l a c:=by
 obtain⟨nrow,h1,h2,h3,h4⟩:=h;exact⟨nrow,h1,h2.base hb,h3,h4⟩
theorem Ml(L:Nat->List V)(q:Nat)(h:q<=2):(A5 L q).length<=(A5 L 2).length:=by
 have h1:(A5 L 1).length=_:=Cu L 0;have h2:(A5 L 2).length=_:=Cu L 1;have:q=0∨q=1∨q=2:=by omega
 rcases this with rfl | rfl | rfl <;> omega
theorem Mm{B:Nat->Prop}{L:Nat->List V}{a:Nat->Option Addr}{c:Nat->Nat}{g0:Nat}{w:World}(hcell:∀q,q<2->w.cell? ⟨g0,q,none⟩=some (.slice (a q) (L q).length (c q)))(hg0:g0<w.heap.size)
  (hvs:∀q,q<2->C2 B w (L q) (a q) (c q)) (hsum:(A5 L 2).length<=1000000) :
  Calls Tryz.prog 66 #[sL g0 0 2 2] w fun r w'=>(∃ao cap,r=.returned (.slice ao (A5 L 2).length cap)∧∃row,w'.ownsRow w.heap.size 31 4 (.slice ao (A5 L 2).length cap) (A5 L 2).length row∧An (Lob B w.heap.size) w' (A5 L 2) row)∧Below w.heap.size w w':=by
 have hvs':∀q,q<2->C2 (Lob B w.heap.size) w (L q) (a q) (c q):=fun q hq=>(hvs q hq).base (fun k h1 h=>⟨h1,h⟩)
 have hG:=L5 (A5 L 2).length (by omega) w;have hround:∀(q:Nat) (wr:World) (v:Value) (row:List Value),q<2->Below w.heap.size w wr->wr.ownsRow w.heap.size 31 4 v (A5 L q).length row->An (Lob B w.heap.size) wr (A5 L q) row ->
   ∃ao cap w',(Builtin.append_ #[22,22] 22 #[v,.slice (a q) (L q).length (c q)]).run Tryz.prog wr=.ok (.slice ao (A5 L (q+1)).length cap) w'∧(∃row',w'.ownsRow w.heap.size 31 4 (.slice ao (A5 L (q+1)).length cap) (A5 L (q+1)).length row'∧An (Lob B w.heap.size) w' (A5 L (q+1)) row')∧Below w.heap.size w w':=by
  intro q wr v row hq hB hown hall;obtain⟨nrow,n1,n2,n3,n4⟩:=(hvs' q hq).below hB;have hle:=Ml L (q+1) (by omega);have hll:=Cu L q;obtain⟨ao,cap,w',hr,ho,hb,_⟩:=Hu Tryz.underlying22 Dh rfl (by decide) 22 hown n3 n1 n4 n2.ones (by omega) (by decide) hB.size;rw[<-hll] at hr ho;exact⟨ao,cap,w',hr,⟨_,ho,(hall.since (E3 hb)).append (n2.since (E3 hb))⟩,hB.trans hb⟩
 have hcl:∀(q:Nat) (wr:World),q<2->Below w.heap.size w wr->wr.cell? ⟨g0,q,none⟩=some (.slice (a q) (L q).length (c q)):=fun q wr hq hB=>((Ag hB).1 _ _ hg0).trans (hcell q hq)
 clear hvs hvs' hcell;go_enter Tryz.func66,Tryz.ntmps66;go_wp2_with fail
 go_loopg [3,11] 2 (fun g s i wr=>∃q:Nat,q<=2∧g=2 - q∧i=iv q∧s=iv (A5 L q).length∧w=wr)
 case atStart=>exact⟨0,by omega,rfl,rfl,rfl,rfl⟩
 case round=>
  obtain⟨q,hq,rfl,rfl,rfl,rfl⟩:=hrel;by_cases hlt:q<2
  ·have hltI:(q:Int)<2:=by omega
   have hc:=hcl q w hlt (Below.refl _ _);have hle:=Ml L (q+1) (by omega);have hll:=Cu L q;have Hll:Hid ((A5 L (q+1)).length=(A5 L q).length+(L q).length):=hll;have hb1:((A5 L q).length:Int)+((L q).length:Int)<=1000000:=by omega
   have hb2:¬((A5 L q).length:Int)+((L q).length:Int)<0:=by omega
   clear hround hcl hG hll hle;go_wp2_with fail;go_roundg (2 - (q+1))
   case measure=>omega
   case rel=>exact⟨q+1,by omega,rfl,by go_num,by rw[Hll.out];go_num,rfl⟩
  ·have hq3:q=2:=by omega
   subst hq3;go_wp2_with fail;refine hG.mono ?_;rintro e w1 ⟨⟨ao,cap,rfl,hown⟩,hb1⟩;clear hG;go_wp2_with fail
   go_loopg [6,27] 2 (fun g s i wr=>∃(q:Nat) (ao:Option Addr) (cap:Nat),q<=2∧g=2 - q∧i=iv q∧s=.slice ao (A5 L q).length cap∧Hid (∃row,wr.ownsRow w.heap.size 31 4 (.slice ao (A5 L q).length cap) (A5 L q).length row∧An (Lob B w.heap.size) wr (A5 L q) row)∧Below w.heap.size w wr)
   case atStart=>exact⟨0,ao,cap,by omega,rfl,rfl,rfl,⟨[],hown,by simp[A5,An]⟩,hb1⟩
   case round=>
    clear hown hb1;obtain⟨q,ao,cap,hq,rfl,rfl,rfl,HO,hB⟩:=hrel;by_cases hlt:q<2
    ·have hltI:(q:Int)<2:=by omega
     have hc:=hcl q wr hlt hB;obtain⟨row,ho,ha⟩:=HO.out;obtain⟨ao',cap',w',hr,HO',hB'⟩:=hround q wr _ row hlt hB ho ha;have HO2:Hid (∃row,w'.ownsRow w.heap.size 31 4 (.slice ao' (A5 L (q+1)).length cap') (A5 L (q+1)).length row∧An (Lob B w.heap.size) w' (A5 L (q+1)) row):=HO';clear HO HO' hround hcl;go_wp2_with (at_builtin;refine Lib.wpList_append_run _ rfl _ _ 22 22 rfl _ _ rfl rfl _ _ hr ?_);go_roundg (2 - (q+1))
     case measure=>omega
     case rel=>exact⟨q+1,ao',cap',by omega,rfl,by go_num,rfl,HO2,hB'⟩
    ·have hq3:q=2:=by omega
     subst hq3;clear hround hcl;go_wp2;go_ret;exact⟨⟨ao,cap,rfl,HO.out⟩,hB⟩
theorem X2{B:Nat->Prop}{p:Nat}{cs fs ss:Value}{fl a:Int}{av:Option Addr}{cv:Nat}{w:World}(hm:Mc p w cs fs ss fl 0){x0 x1:V}(hv:Al B w [x0,x1] (.slice av 2 cv))(s0:Snd x0)(s1:Snd x1) :
  Calls Tryz.prog 75 #[pt p 0,.agg #[iv 12,iv a],.slice av 2 cv] w fun r w'=>RMk p cs fs ss fl (binV a x0 x1) w r w':=by
 obtain⟨g,o,ax,cx,rfl,_,hg,c00,c01,c02,c03,hw0⟩:=hv.get (i:=0) (x:=x0) rfl;obtain⟨g1,o1,ay,cy,e1,_,-,c10,c11,c12,c13,hw1⟩:=hv.get (i:=1) (x:=x1) rfl;simp only[Option.some.injEq,Addr.mk.injEq,and_true] at e1;obtain⟨rfl,rfl⟩:=e1;obtain⟨wa,wb,wz,wc,hWa,hWb,hWz,hWc,lz,hxz,la,lb,lc,hbc,i0,z6,z7⟩:=Fl w 12 a;obtain⟨y0,y1,y2,y3,v0,v1,v2,v3⟩:=Aa hxz;obtain⟨f,-⟩:=Ag hbc;obtain⟨j0,j1,-,-,hlj⟩:=Ae i0;obtain⟨n0,n1,n2,n3,t0,t1,t2,t3⟩:=Aa z7;have hgc:g<wc.heap.size:=Nat.lt_of_lt_of_le hg hbc.size;have u1:g≠wb.heap.size:=by omega
 have u2:wb.heap.size≠g:=by omega
 have u3:w.heap.size≠wb.heap.size:=by omega
 have u4:wb.heap.size≠w.heap.size:=by omega
 have d00:wc.cell? ⟨g,o,none⟩=_:=(f g (o) hg).trans c00;have d01:wc.cell? ⟨g,o+1,none⟩=_:=(f g (o+1) hg).trans c01;have d02:wc.cell? ⟨g,o+2,none⟩=_:=(f g (o+2) hg).trans c02;have d03:wc.cell? ⟨g,o+3,none⟩=_:=(f g (o+3) hg).trans c03;have d10:wc.cell? ⟨g,o+4,none⟩=_:=(f g (o+4) hg).trans c10;have d11:wc.cell? ⟨g,o+5,none⟩=_:=(f g (o+5) hg).trans c11;have d12:wc.cell? ⟨g,o+6,none⟩=_:=(f g (o+6) hg).trans c12;have d13:wc.cell? ⟨g,o+7,none⟩=_:=(f g (o+7) hg).trans c13;clear f c00 c01 c02 c03 c10 c11 c12 c13;have hC:∀w2,Below wc.heap.size wc w2->Calls Tryz.prog 105 #[iv a,.agg #[iv x0.k,iv x0.n,bz x0.t,.slice ax x0.l.length cx],.agg #[iv x1.k,iv x1.n,bz x1.t,.slice ay x1.l.length cy]] w2 fun r w'=>Br w2 (binV a x0 x1) r w':=fun w2 hb=>((M7 a (hw0.below (hbc.trans (hb.mono hbc.size))) (hw1.below (hbc.trans (hb.mono hbc.size))) (by have:=s0.txt;omega) (by have:=s1.txt;omega)).mono fun r w1 h=>h.out (It hw0.nr hw1.nr s0.txt s1.txt).1 (It hw0.nr hw1.nr s0.txt s1.txt).2.1 (It hw0.nr hw1.nr s0.txt s1.txt).2.2.1 (It hw0.nr hw1.nr s0.txt s1.txt).2.2.2)
 generalize binV a x0 x1=ov at *;clear hw0 s0 hw1 s1 hv i0 hxz;go_enter Tryz.func75,Tryz.ntmps75;go_wp2_with fail;go_region_held3 (fun w'=>w'.cell? ⟨w.heap.size,1,none⟩=some (iv a)∧w'.cell? ⟨g,o,none⟩=some (iv x0.k)∧w'.cell? ⟨g,o+1,none⟩=some (iv x0.n)∧w'.cell? ⟨g,o+2,none⟩=some (bz x0.t)∧w'.cell? ⟨g,o+3,none⟩=some (.slice ax x0.l.length cx)∧w'.cell? ⟨g,o+4,none⟩=some (iv x1.k)∧w'.cell? ⟨g,o+5,none⟩=some (iv x1.n)∧w'.cell? ⟨g,o+6,none⟩=some (bz x1.t)∧w'.cell? ⟨g,o+7,none⟩=some (.slice ay x1.l.length cy)) (go_keep)
  ((go_at_call 105;refine (hC _ (Below.refl _ _).drew).mono ?_;rintro r w5 ⟨⟨ao,cap,rfl,hx⟩,hb5⟩;replace hb5:=Ad hb5;obtain⟨f3,-⟩:=Ag hb5;obtain⟨n0,n1,n2,n3,t0,t1,t2,t3⟩:=Aa ((hb5.block _ lc).trans z7);have l7:wb.heap.size<w5.heap.size:=Nat.lt_of_lt_of_le lc hb5.size))
 obtain⟨w6,w8,hW6,hTr,h7,m0,m1,m2,m3,hl8,hfin⟩:=Ch hm (by omega) lb lc hbc hb5 z6 z7 hx;clear z6 z7 hx hb5 hC j0 j1 f3 u1 u2 u3 u4 d00 d01 d02 d03 d10 d11 d12 d13;go_wp2_with fail;refine hTr.mono ?_;rintro r w7 ⟨rfl,hw7⟩;obtain⟨a0,a1,a2,a3,b0,b1,b2,b3,k0,k1,k2,k3,l6,l7',hW8⟩:=h7 w7 hw7;clear h7 hw7 hTr;go_wp2_with fail;exact bodyPost_ret (v:=.agg #[iv ov.1.k,iv ov.1.n,.string ⟨ov.1.t.toArray⟩,.slice ao ov.1.l.length cap]) (by simp[results,Tryz.results75,go_sem,hl8,m0,m1,m2,m3]) rfl hfin
theorem X3{B:Nat->Prop}{p:Nat}{cs fs ss:Value}{fl a:Int}{av:Option Addr}{cv:Nat}{w:World}(hm:Mc p w cs fs ss fl 0){x0:V}(hv:Al B w [x0] (.slice av 1 cv))(s0:Snd x0) :
  Calls Tryz.prog 75 #[pt p 0,.agg #[iv 13,iv a],.slice av 1 cv] w fun r w'=>RMk p cs fs ss fl (negV x0) w r w':=by
 obtain⟨g,o,ax,cx,rfl,_,hg,c00,c01,c02,c03,hw0⟩:=hv.get (i:=0) (x:=x0) rfl;obtain⟨wa,wb,wz,wc,hWa,hWb,hWz,hWc,lz,hxz,la,lb,lc,hbc,i0,z6,z7⟩:=Fl w 13 a;obtain⟨y0,y1,y2,y3,v0,v1,v2,v3⟩:=Aa hxz;obtain⟨f,-⟩:=Ag hbc;obtain⟨j0,j1,-,-,hlj⟩:=Ae i0;obtain⟨n0,n1,n2,n3,t0,t1,t2,t3⟩:=Aa z7;have hgc:g<wc.heap.size:=Nat.lt_of_lt_of_le hg hbc.size;have u1:g≠wb.heap.size:=by omega
 have u2:wb.heap.size≠g:=by omega
 have u3:w.heap.size≠wb.heap.size:=by omega
 have u4:wb.heap.size≠w.heap.size:=by omega
 have d00:wc.cell? ⟨g,o,none⟩=_:=(f g (o) hg).trans c00;have d01:wc.cell? ⟨g,o+1,none⟩=_:=(f g (o+1) hg).trans c01;have d02:wc.cell? ⟨g,o+2,none⟩=_:=(f g (o+2) hg).trans c02;have d03:wc.cell? ⟨g,o+3,none⟩=_:=(f g (o+3) hg).trans c03;clear f c00 c01 c02 c03;have hC:∀w2,Below wc.heap.size wc w2->Calls Tryz.prog 106 #[.agg #[iv x0.k,iv x0.n,bz x0.t,.slice ax x0.l.length cx]] w2 fun r w'=>Br w2 (negV x0) r w':=fun w2 hb=>((Ul hw0.nr w2).mono fun r w1 h=>h.out Iu.1 Iu.2.1 Iu.2.2.1 Iu.2.2.2)
 generalize negV x0=ov at *;clear hw0 s0 hv i0 hxz;go_enter Tryz.func75,Tryz.ntmps75;go_wp2_with fail;refine (hC wc (Below.refl _ _)).mono ?_;rintro r w5 ⟨⟨ao,cap,rfl,hx⟩,hb5⟩;clear hC n0 n1 n2 n3 t0 t1 t2 t3;obtain⟨w6,w8,hW6,hTr,h7,m0,m1,m2,m3,hl8,hfin⟩:=Ch hm (by omega) lb lc hbc hb5 z6 z7 hx;obtain⟨n0,n1,n2,n3,t0,t1,t2,t3⟩:=Aa ((hb5.block _ lc).trans z7);have l7:wb.heap.size<w5.heap.size:=Nat.lt_of_lt_of_le lc hb5.size;clear z6 z7 hx hb5 j0 j1 d00 d01 d02 d03;go_wp2_with fail;refine hTr.mono ?_;rintro r w7 ⟨rfl,hw7⟩;obtain⟨a0,a1,a2,a3,b0,b1,b2,b3,k0,k1,k2,k3,l6,l7',hW8⟩:=h7 w7 hw7;clear h7 hw7 hTr;go_wp2_with fail;exact bodyPost_ret (v:=.agg #[iv ov.1.k,iv ov.1.n,.string ⟨ov.1.t.toArray⟩,.slice ao ov.1.l.length cap]) (by simp[results,Tryz.results75,go_sem,hl8,m0,m1,m2,m3]) rfl hfin
theorem X4{B:Nat->Prop}{p:Nat}{cs fs ss:Value}{fl a:Int}{av:Option Addr}{cv:Nat}{w:World}(hm:Mc p w cs fs ss fl 0){x0 x1:V}(hv:Al B w [x0,x1] (.slice av 2 cv))(s0:Snd x0)(s1:Snd x1) :
  Calls Tryz.prog 75 #[pt p 0,.agg #[iv 18,iv a],.slice av 2 cv] w fun r w'=>RMk p cs fs ss fl (atV x0 x1) w r w':=by
 obtain⟨g,o,ax,cx,rfl,_,hg,c00,c01,c02,c03,hw0⟩:=hv.get (i:=0) (x:=x0) rfl;obtain⟨g1,o1,ay,cy,e1,_,-,c10,c11,c12,c13,hw1⟩:=hv.get (i:=1) (x:=x1) rfl;simp only[Option.some.injEq,Addr.mk.injEq,and_true] at e1;obtain⟨rfl,rfl⟩:=e1;obtain⟨wa,wb,wz,wc,hWa,hWb,hWz,hWc,lz,hxz,la,lb,lc,hbc,i0,z6,z7⟩:=Fl w 18 a;obtain⟨y0,y1,y2,y3,v0,v1,v2,v3⟩:=Aa hxz;obtain⟨f,-⟩:=Ag hbc;obtain⟨j0,j1,-,-,hlj⟩:=Ae i0;obtain⟨n0,n1,n2,n3,t0,t1,t2,t3⟩:=Aa z7;have hgc:g<wc.heap.size:=Nat.lt_of_lt_of_le hg hbc.size;have u1:g≠wb.heap.size:=by omega
 have u2:wb.heap.size≠g:=by omega
 have u3:w.heap.size≠wb.heap.size:=by omega
 have u4:wb.heap.size≠w.heap.size:=by omega
 have d00:wc.cell? ⟨g,o,none⟩=_:=(f g (o) hg).trans c00;have d01:wc.cell? ⟨g,o+1,none⟩=_:=(f g (o+1) hg).trans c01;have d02:wc.cell? ⟨g,o+2,none⟩=_:=(f g (o+2) hg).trans c02;have d03:wc.cell? ⟨g,o+3,none⟩=_:=(f g (o+3) hg).trans c03;have d10:wc.cell? ⟨g,o+4,none⟩=_:=(f g (o+4) hg).trans c10;have d11:wc.cell? ⟨g,o+5,none⟩=_:=(f g (o+5) hg).trans c11;have d12:wc.cell? ⟨g,o+6,none⟩=_:=(f g (o+6) hg).trans c12;have d13:wc.cell? ⟨g,o+7,none⟩=_:=(f g (o+7) hg).trans c13;clear f c00 c01 c02 c03 c10 c11 c12 c13;have hC:∀w2,Below wc.heap.size wc w2->Calls Tryz.prog 110 #[.agg #[iv x0.k,iv x0.n,bz x0.t,.slice ax x0.l.length cx],.agg #[iv x1.k,iv x1.n,bz x1.t,.slice ay x1.l.length cy]] w2 fun r w'=>Br w2 (atV x0 x1) r w':=fun w2 hb=>(Pu (hw0.below (hbc.trans (hb.mono hbc.size))) (hw1.below (hbc.trans (hb.mono hbc.size))) (by have:=s0.1;omega) s0.tidy)
 generalize atV x0 x1=ov at *;clear hw0 s0 hw1 s1 hv i0 hxz;go_enter Tryz.func75,Tryz.ntmps75;go_wp2_with fail;go_region_held3 (fun w'=>w'.cell? ⟨g,o,none⟩=some (iv x0.k)∧w'.cell? ⟨g,o+1,none⟩=some (iv x0.n)∧w'.cell? ⟨g,o+2,none⟩=some (bz x0.t)∧w'.cell? ⟨g,o+3,none⟩=some (.slice ax x0.l.length cx)∧w'.cell? ⟨g,o+4,none⟩=some (iv x1.k)∧w'.cell? ⟨g,o+5,none⟩=some (iv x1.n)∧w'.cell? ⟨g,o+6,none⟩=some (bz x1.t)∧w'.cell? ⟨g,o+7,none⟩=some (.slice ay x1.l.length cy)) (go_keep)
  ((go_at_call 110;refine (hC _ (Below.refl _ _).drew).mono ?_;rintro r w5 ⟨⟨ao,cap,rfl,hx⟩,hb5⟩;replace hb5:=Ad hb5;obtain⟨f3,-⟩:=Ag hb5;obtain⟨n0,n1,n2,n3,t0,t1,t2,t3⟩:=Aa ((hb5.block _ lc).trans z7);have l7:wb.heap.size<w5.heap.size:=Nat.lt_of_lt_of_le lc hb5.size))
 obtain⟨w6,w8,hW6,hTr,h7,m0,m1,m2,m3,hl8,hfin⟩:=Ch hm (by omega) lb lc hbc hb5 z6 z7 hx;clear z6 z7 hx hb5 hC j0 j1 f3 u1 u2 u3 u4 d00 d01 d02 d03 d10 d11 d12 d13;go_wp2_with fail;refine hTr.mono ?_;rintro r w7 ⟨rfl,hw7⟩;obtain⟨a0,a1,a2,a3,b0,b1,b2,b3,k0,k1,k2,k3,l6,l7',hW8⟩:=h7 w7 hw7;clear h7 hw7 hTr;go_wp2_with fail;exact bodyPost_ret (v:=.agg #[iv ov.1.k,iv ov.1.n,.string ⟨ov.1.t.toArray⟩,.slice ao ov.1.l.length cap]) (by simp[results,Tryz.results75,go_sem,hl8,m0,m1,m2,m3]) rfl hfin
theorem X5{B:Nat->Prop}{p:Nat}{cs fs ss:Value}{fl a:Int}{av:Option Addr}{cv:Nat}{w:World}(hm:Mc p w cs fs ss fl 0){x0 x1:V}(hv:Al B w [x0,x1] (.slice av 2 cv))(s0:Snd x0)(s1:Snd x1) :
  Calls Tryz.prog 75 #[pt p 0,.agg #[iv 19,iv a],.slice av 2 cv] w fun r w'=>RMk p cs fs ss fl (pushV x0 x1) w r w':=by
 obtain⟨g,o,ax,cx,rfl,_,hg,c00,c01,c02,c03,hw0⟩:=hv.get (i:=0) (x:=x0) rfl;obtain⟨g1,o1,ay,cy,e1,_,-,c10,c11,c12,c13,hw1⟩:=hv.get (i:=1) (x:=x1) rfl;simp only[Option.some.injEq,Addr.mk.injEq,and_true] at e1;obtain⟨rfl,rfl⟩:=e1;obtain⟨wa,wb,wz,wc,hWa,hWb,hWz,hWc,lz,hxz,la,lb,lc,hbc,i0,z6,z7⟩:=Fl w 19 a;obtain⟨y0,y1,y2,y3,v0,v1,v2,v3⟩:=Aa hxz;obtain⟨f,-⟩:=Ag hbc;obtain⟨j0,j1,-,-,hlj⟩:=Ae i0;obtain⟨n0,n1,n2,n3,t0,t1,t2,t3⟩:=Aa z7;have hgc:g<wc.heap.size:=Nat.lt_of_lt_of_le hg hbc.size;have u1:g≠wb.heap.size:=by omega
 have u2:wb.heap.size≠g:=by omega
 have u3:w.heap.size≠wb.heap.size:=by omega
 have u4:wb.heap.size≠w.heap.size:=by omega
 have d00:wc.cell? ⟨g,o,none⟩=_:=(f g (o) hg).trans c00;have d01:wc.cell? ⟨g,o+1,none⟩=_:=(f g (o+1) hg).trans c01;have d02:wc.cell? ⟨g,o+2,none⟩=_:=(f g (o+2) hg).trans c02;have d03:wc.cell? ⟨g,o+3,none⟩=_:=(f g (o+3) hg).trans c03;have d10:wc.cell? ⟨g,o+4,none⟩=_:=(f g (o+4) hg).trans c10;have d11:wc.cell? ⟨g,o+5,none⟩=_:=(f g (o+5) hg).trans c11;have d12:wc.cell? ⟨g,o+6,none⟩=_:=(f g (o+6) hg).trans c12;have d13:wc.cell? ⟨g,o+7,none⟩=_:=(f g (o+7) hg).trans c13;clear f c00 c01 c02 c03 c10 c11 c12 c13;have hC:∀w2,Below wc.heap.size wc w2->Calls Tryz.prog 111 #[.agg #[iv x0.k,iv x0.n,bz x0.t,.slice ax x0.l.length cx],.agg #[iv x1.k,iv x1.n,bz x1.t,.slice ay x1.l.length cy]] w2 fun r w'=>Br w2 (pushV x0 x1) r w':=fun w2 hb=>(Rf (hw0.below (hbc.trans (hb.mono hbc.size))) (hw1.below (hbc.trans (hb.mono hbc.size))) (by have:=s0.1;omega) (by have:=s1.1;omega))
 generalize pushV x0 x1=ov at *;clear hw0 s0 hw1 s1 hv i0 hxz;go_enter Tryz.func75,Tryz.ntmps75;go_wp2_with fail;go_region_held3 (fun w'=>w'.cell? ⟨g,o,none⟩=some (iv x0.k)∧w'.cell? ⟨g,o+1,none⟩=some (iv x0.n)∧w'.cell? ⟨g,o+2,none⟩=some (bz x0.t)∧w'.cell? ⟨g,o+3,none⟩=some (.slice ax x0.l.length cx)∧w'.cell? ⟨g,o+4,none⟩=some (iv x1.k)∧w'.cell? ⟨g,o+5,none⟩=some (iv x1.n)∧w'.cell? ⟨g,o+6,none⟩=some (bz x1.t)∧w'.cell? ⟨g,o+7,none⟩=some (.slice ay x1.l.length cy)) (go_keep)
  ((go_at_call 111;refine (hC _ (Below.refl _ _).drew).mono ?_;rintro r w5 ⟨⟨ao,cap,rfl,hx⟩,hb5⟩;replace hb5:=Ad hb5;obtain⟨f3,-⟩:=Ag hb5;obtain⟨n0,n1,n2,n3,t0,t1,t2,t3⟩:=Aa ((hb5.block _ lc).trans z7);have l7:wb.heap.size<w5.heap.size:=Nat.lt_of_lt_of_le lc hb5.size))
 obtain⟨w6,w8,hW6,hTr,h7,m0,m1,m2,m3,hl8,hfin⟩:=Ch hm (by omega) lb lc hbc hb5 z6 z7 hx;clear z6 z7 hx hb5 hC j0 j1 f3 u1 u2 u3 u4 d00 d01 d02 d03 d10 d11 d12 d13;go_wp2_with fail;refine hTr.mono ?_;rintro r w7 ⟨rfl,hw7⟩;obtain⟨a0,a1,a2,a3,b0,b1,b2,b3,k0,k1,k2,k3,l6,l7',hW8⟩:=h7 w7 hw7;clear h7 hw7 hTr;go_wp2_with fail;exact bodyPost_ret (v:=.agg #[iv ov.1.k,iv ov.1.n,.string ⟨ov.1.t.toArray⟩,.slice ao ov.1.l.length cap]) (by simp[results,Tryz.results75,go_sem,hl8,m0,m1,m2,m3]) rfl hfin
theorem X6{B:Nat->Prop}{p:Nat}{cs fs ss:Value}{fl a:Int}{av:Option Addr}{cv:Nat}{w:World}(hm:Mc p w cs fs ss fl 0){x0 x1 x2:V}(hv:Al B w [x0,x1,x2] (.slice av 3 cv))(s0:Snd x0)(s1:Snd x1)(s2:Snd x2) :
  Calls Tryz.prog 75 #[pt p 0,.agg #[iv 20,iv a],.slice av 3 cv] w fun r w'=>RMk p cs fs ss fl (putV x0 x1 x2) w r w':=by
 obtain⟨g,o,ax,cx,rfl,_,hg,c00,c01,c02,c03,hw0⟩:=hv.get (i:=0) (x:=x0) rfl;obtain⟨g1,o1,ay,cy,e1,_,-,c10,c11,c12,c13,hw1⟩:=hv.get (i:=1) (x:=x1) rfl;simp only[Option.some.injEq,Addr.mk.injEq,and_true] at e1;obtain⟨rfl,rfl⟩:=e1;obtain⟨g2,o2,az,cz,e2,_,-,c20,c21,c22,c23,hw2⟩:=hv.get (i:=2) (x:=x2) rfl;simp only[Option.some.injEq,Addr.mk.injEq,and_true] at e2;obtain⟨rfl,rfl⟩:=e2;obtain⟨wa,wb,wz,wc,hWa,hWb,hWz,hWc,lz,hxz,la,lb,lc,hbc,i0,z6,z7⟩:=Fl w 20 a;obtain⟨y0,y1,y2,y3,v0,v1,v2,v3⟩:=Aa hxz;obtain⟨f,-⟩:=Ag hbc;obtain⟨j0,j1,-,-,hlj⟩:=Ae i0;obtain⟨n0,n1,n2,n3,t0,t1,t2,t3⟩:=Aa z7;have hgc:g<wc.heap.size:=Nat.lt_of_lt_of_le hg hbc.size;have u1:g≠wb.heap.size:=by omega
 have u2:wb.heap.size≠g:=by omega
 have u3:w.heap.size≠wb.heap.size:=by omega
 have u4:wb.heap.size≠w.heap.size:=by omega
 have d00:wc.cell? ⟨g,o,none⟩=_:=(f g (o) hg).trans c00;have d01:wc.cell? ⟨g,o+1,none⟩=_:=(f g (o+1) hg).trans c01;have d02:wc.cell? ⟨g,o+2,none⟩=_:=(f g (o+2) hg).trans c02;have d03:wc.cell? ⟨g,o+3,none⟩=_:=(f g (o+3) hg).trans c03;have d10:wc.cell? ⟨g,o+4,none⟩=_:=(f g (o+4) hg).trans c10;have d11:wc.cell? ⟨g,o+5,none⟩=_:=(f g (o+5) hg).trans c11;have d12:wc.cell? ⟨g,o+6,none⟩=_:=(f g (o+6) hg).trans c12;have d13:wc.cell? ⟨g,o+7,none⟩=_:=(f g (o+7) hg).trans c13;have d20:wc.cell? ⟨g,o+8,none⟩=_:=(f g (o+8) hg).trans c20;have d21:wc.cell? ⟨g,o+9,none⟩=_:=(f g (o+9) hg).trans c21;have d22:wc.cell? ⟨g,o+10,none⟩=_:=(f g (o+10) hg).trans c22;have d23:wc.cell? ⟨g,o+11,none⟩=_:=(f g (o+11) hg).trans c23;clear f c00 c01 c02 c03 c10 c11 c12 c13 c20 c21 c22 c23;have hC:∀w2,Below wc.heap.size wc w2->Calls Tryz.prog 112 #[.agg #[iv x0.k,iv x0.n,bz x0.t,.slice ax x0.l.length cx],.agg #[iv x1.k,iv x1.n,bz x1.t,.slice ay x1.l.length cy],.agg #[iv x2.k,iv x2.n,bz x2.t,.slice az x2.l.length cz]] w2 fun r w'=>Br w2 (putV x0 x1 x2) r w':=fun w2 hb=>(Rl (hw0.below (hbc.trans (hb.mono hbc.size))) (hw1.below (hbc.trans (hb.mono hbc.size))) (hw2.below (hbc.trans (hb.mono hbc.size))) (by have:=s0.1;omega) (by have:=s1.1;omega) (by have:=s2.1;omega) s0.tidy)
 generalize putV x0 x1 x2=ov at *;clear hw0 s0 hw1 s1 hw2 s2 hv i0 hxz;go_enter Tryz.func75,Tryz.ntmps75;go_wp2_with fail;go_region_held3 (fun w'=>w'.cell? ⟨g,o,none⟩=some (iv x0.k)∧w'.cell? ⟨g,o+1,none⟩=some (iv x0.n)∧w'.cell? ⟨g,o+2,none⟩=some (bz x0.t)∧w'.cell? ⟨g,o+3,none⟩=some (.slice ax x0.l.length cx)∧w'.cell? ⟨g,o+4,none⟩=some (iv x1.k)∧w'.cell? ⟨g,o+5,none⟩=some (iv x1.n)∧w'.cell? ⟨g,o+6,none⟩=some (bz x1.t)∧w'.cell? ⟨g,o+7,none⟩=some (.slice ay x1.l.length cy)∧w'.cell? ⟨g,o+8,none⟩=some (iv x2.k)∧w'.cell? ⟨g,o+9,none⟩=some (iv x2.n)∧w'.cell? ⟨g,o+10,none⟩=some (bz x2.t)∧w'.cell? ⟨g,o+11,none⟩=some (.slice az x2.l.length cz)) (go_keep)
  ((go_at_call 112;refine (hC _ (Below.refl _ _).drew).mono ?_;rintro r w5 ⟨⟨ao,cap,rfl,hx⟩,hb5⟩;replace hb5:=Ad hb5;obtain⟨f3,-⟩:=Ag hb5;obtain⟨n0,n1,n2,n3,t0,t1,t2,t3⟩:=Aa ((hb5.block _ lc).trans z7);have l7:wb.heap.size<w5.heap.size:=Nat.lt_of_lt_of_le lc hb5.size))
 obtain⟨w6,w8,hW6,hTr,h7,m0,m1,m2,m3,hl8,hfin⟩:=Ch hm (by omega) lb lc hbc hb5 z6 z7 hx;clear z6 z7 hx hb5 hC j0 j1 f3 u1 u2 u3 u4 d00 d01 d02 d03 d10 d11 d12 d13 d20 d21 d22 d23;go_wp2_with fail;refine hTr.mono ?_;rintro r w7 ⟨rfl,hw7⟩;obtain⟨a0,a1,a2,a3,b0,b1,b2,b3,k0,k1,k2,k3,l6,l7',hW8⟩:=h7 w7 hw7;clear h7 hw7 hTr;go_wp2_with fail;exact bodyPost_ret (v:=.agg #[iv ov.1.k,iv ov.1.n,.string ⟨ov.1.t.toArray⟩,.slice ao ov.1.l.length cap]) (by simp[results,Tryz.results75,go_sem,hl8,m0,m1,m2,m3]) rfl hfin
theorem X7{B:Nat->Prop}{p:Nat}{cs fs ss:Value}{fl a:Int}{av:Option Addr}{cv:Nat}{w:World}(hm:Mc p w cs fs ss fl 0){x0 x1:V}(hv:Al B w [x0,x1] (.slice av 2 cv))(s0:Snd x0)(s1:Snd x1) :
  Calls Tryz.prog 75 #[pt p 0,.agg #[iv 21,iv a],.slice av 2 cv] w fun r w'=>RMk p cs fs ss fl (delV x0 x1) w r w':=by
 obtain⟨g,o,ax,cx,rfl,_,hg,c00,c01,c02,c03,hw0⟩:=hv.get (i:=0) (x:=x0) rfl;obtain⟨g1,o1,ay,cy,e1,_,-,c10,c11,c12,c13,hw1⟩:=hv.get (i:=1) (x:=x1) rfl;simp only[Option.some.injEq,Addr.mk.injEq,and_true] at e1;obtain⟨rfl,rfl⟩:=e1;obtain⟨wa,wb,wz,wc,hWa,hWb,hWz,hWc,lz,hxz,la,lb,lc,hbc,i0,z6,z7⟩:=Fl w 21 a;obtain⟨y0,y1,y2,y3,v0,v1,v2,v3⟩:=Aa hxz;obtain⟨f,-⟩:=Ag hbc;obtain⟨j0,j1,-,-,hlj⟩:=Ae i0;obtain⟨n0,n1,n2,n3,t0,t1,t2,t3⟩:=Aa z7;have hgc:g<wc.heap.size:=Nat.lt_of_lt_of_le hg hbc.size;have u1:g≠wb.heap.size:=by omega
 have u2:wb.heap.size≠g:=by omega
 have u3:w.heap.size≠wb.heap.size:=by omega
 have u4:wb.heap.size≠w.heap.size:=by omega
 have d00:wc.cell? ⟨g,o,none⟩=_:=(f g (o) hg).trans c00;have d01:wc.cell? ⟨g,o+1,none⟩=_:=(f g (o+1) hg).trans c01;have d02:wc.cell? ⟨g,o+2,none⟩=_:=(f g (o+2) hg).trans c02;have d03:wc.cell? ⟨g,o+3,none⟩=_:=(f g (o+3) hg).trans c03;have d10:wc.cell? ⟨g,o+4,none⟩=_:=(f g (o+4) hg).trans c10;have d11:wc.cell? ⟨g,o+5,none⟩=_:=(f g (o+5) hg).trans c11;have d12:wc.cell? ⟨g,o+6,none⟩=_:=(f g (o+6) hg).trans c12;have d13:wc.cell? ⟨g,o+7,none⟩=_:=(f g (o+7) hg).trans c13;clear f c00 c01 c02 c03 c10 c11 c12 c13;have hC:∀w2,Below wc.heap.size wc w2->Calls Tryz.prog 113 #[.agg #[iv x0.k,iv x0.n,bz x0.t,.slice ax x0.l.length cx],.agg #[iv x1.k,iv x1.n,bz x1.t,.slice ay x1.l.length cy]] w2 fun r w'=>Br w2 (delV x0 x1) r w':=fun w2 hb=>(Uw (hw0.below (hbc.trans (hb.mono hbc.size))) (hw1.below (hbc.trans (hb.mono hbc.size))) (by have:=s0.1;omega) s0.tidy)
 generalize delV x0 x1=ov at *;clear hw0 s0 hw1 s1 hv i0 hxz;go_enter Tryz.func75,Tryz.ntmps75;go_wp2_with fail;go_region_held3 (fun w'=>w'.cell? ⟨g,o,none⟩=some (iv x0.k)∧w'.cell? ⟨g,o+1,none⟩=some (iv x0.n)∧w'.cell? ⟨g,o+2,none⟩=some (bz x0.t)∧w'.cell? ⟨g,o+3,none⟩=some (.slice ax x0.l.length cx)∧w'.cell? ⟨g,o+4,none⟩=some (iv x1.k)∧w'.cell? ⟨g,o+5,none⟩=some (iv x1.n)∧w'.cell? ⟨g,o+6,none⟩=some (bz x1.t)∧w'.cell? ⟨g,o+7,none⟩=some (.slice ay x1.l.length cy)) (go_keep)
  ((go_at_call 113;refine (hC _ (Below.refl _ _).drew).mono ?_;rintro r w5 ⟨⟨ao,cap,rfl,hx⟩,hb5⟩;replace hb5:=Ad hb5;obtain⟨f3,-⟩:=Ag hb5;obtain⟨n0,n1,n2,n3,t0,t1,t2,t3⟩:=Aa ((hb5.block _ lc).trans z7);have l7:wb.heap.size<w5.heap.size:=Nat.lt_of_lt_of_le lc hb5.size))
 obtain⟨w6,w8,hW6,hTr,h7,m0,m1,m2,m3,hl8,hfin⟩:=Ch hm (by omega) lb lc hbc hb5 z6 z7 hx;clear z6 z7 hx hb5 hC j0 j1 f3 u1 u2 u3 u4 d00 d01 d02 d03 d10 d11 d12 d13;go_wp2_with fail;refine hTr.mono ?_;rintro r w7 ⟨rfl,hw7⟩;obtain⟨a0,a1,a2,a3,b0,b1,b2,b3,k0,k1,k2,k3,l6,l7',hW8⟩:=h7 w7 hw7;clear h7 hw7 hTr;go_wp2_with fail;exact bodyPost_ret (v:=.agg #[iv ov.1.k,iv ov.1.n,.string ⟨ov.1.t.toArray⟩,.slice ao ov.1.l.length cap]) (by simp[results,Tryz.results75,go_sem,hl8,m0,m1,m2,m3]) rfl hfin
end
end Go.Proofs.YtnijcolomoobnaaGreatDoor
