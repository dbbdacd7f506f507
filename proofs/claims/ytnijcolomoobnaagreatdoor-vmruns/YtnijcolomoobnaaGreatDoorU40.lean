/- Texts of ours, joined. -/
import Derived.Test.YtnijcolomoobnaaGreatDoorU38
set_option linter.unusedVariables false
set_option linter.unusedSimpArgs false
set_option maxRecDepth 100000
set_option maxHeartbeats 16000000
namespace Go.Proofs.YtnijcolomoobnaaGreatDoor
section
open Go.RowKit
structure VmF(base p:Nat)(A:Nat->Prop)(m:Md)(cs fs ss ls:Value)(f:Fu)(fc:Value)(rb fb:Nat)(rx fx:Obj)(loc sts:List V)(fl tr:Int)(w:World):Prop where
 s:VmS base p A m cs fs ss ls loc sts fl tr w
 fn:IsFn (Bq A ls) w f fc
 r:w.heap[rb]?=some rx
 f:w.heap[fb]?=some fx
 nr:¬A rb
 nf:¬A fb
 rp:rb≠p
 fp:fb≠p
 rs:ss.ownBlock≠some rb
 fs:ss.ownBlock≠some fb
section
variable {base p:Nat} {A:Nat->Prop} {m:Md} {cs fs ss ls:Value} {f:Fu} {fc:Value} {rb fb:Nat} {rx fx:Obj} {loc sts:List V} {fl tr:Int} {w w':World}
theorem VmF.rl(h:VmF base p A m cs fs ss ls f fc rb fb rx fx loc sts fl tr w):rb<w.heap.size:=(Array.getElem?_eq_some_iff.1 h.r).1
theorem VmF.ffl(h:VmF base p A m cs fs ss ls f fc rb fb rx fx loc sts fl tr w):fb<w.heap.size:=(Array.getElem?_eq_some_iff.1 h.f).1
theorem VmF.keep(h:VmF base p A m cs fs ss ls f fc rb fb rx fx loc sts fl tr w)(hb:Below w.heap.size w w'):VmF base p A m cs fs ss ls f fc rb fb rx fx loc sts fl tr w':=
 ⟨h.s.keep hb,h.fn.below hb,(hb.block _ h.rl).trans h.r,(hb.block _ h.ffl).trans h.f,h.nr,h.nf,h.rp,h.fp,h.rs,h.fs⟩
theorem VmF.box{fl' tr':Int}(h:VmF base p A m cs fs ss ls f fc rb fb rx fx loc sts fl tr w)(hf:Fr (fun k=>k≠p) w w')(hm:Mc p w' cs fs ss fl' tr'):VmF base p A m cs fs ss ls f fc rb fb rx fx loc sts fl' tr' w':=
 ⟨h.s.box hf hm,h.fn.since ⟨hf.size,fun k hk hl=>hf.block k (fun e=>h.s.np (e ▸ hk.1)) hl⟩,(hf.block _ h.rp h.rl).trans h.r,(hf.block _ h.fp h.ffl).trans h.f,h.nr,h.nf,h.rp,h.fp,h.rs,h.fs⟩
theorem VmF.setL{gl n cap:Nat}(h:VmF base p A m cs fs ss (sL gl 0 n cap) f fc rb fb rx fx loc sts fl tr w){i:Nat}(hi:i<loc.length){x:V}{xs:Value}(hx:IsW (Bq A (sL gl 0 n cap)) w x xs):VmF base p A m cs fs ss (sL gl 0 n cap) f fc rb fb rx fx (loc.set i x) sts fl tr (set4At w gl (i*4) (iv x.k) (iv x.n) (bz x.t) xs):=by
 have hgl:=h.s.lc.lt (k:=gl) rfl;have hs:∀{P:Nat->Prop},(¬P gl)->Since P w (set4At w gl (i*4) (iv x.k) (iv x.n) (bz x.t) xs):=fun {P} h=>Bi h _ _ _ _ _
 have h1:=hs (P:=fun k=>k≠gl) (by simp);exact⟨h.s.setL hi hx,h.fn.since (hs (fun hk=>Ky hk.2 rfl)),(h1.block rb (fun e=>h.nr (e.symm ▸ hgl.1)) h.rl).trans h.r,(h1.block fb (fun e=>h.nf (e.symm ▸ hgl.1)) h.ffl).trans h.f,h.nr,h.nf,h.rp,h.fp,h.rs,h.fs⟩
theorem VmF.setS{gs n cap:Nat}(h:VmF base p A m cs fs (sL gs 0 n cap) ls f fc rb fb rx fx loc sts fl tr w){i:Nat}(hi:i<sts.length){x:V}{xs:Value}(hx:IsW (Bq A ls) w x xs):VmF base p A m cs fs (sL gs 0 n cap) ls f fc rb fb rx fx loc (sts.set i x) fl tr (set4At w gs (i*4) (iv x.k) (iv x.n) (bz x.t) xs):=by
 have hs:∀{P:Nat->Prop},(¬P gs)->Since P w (set4At w gs (i*4) (iv x.k) (iv x.n) (bz x.t) xs):=fun {P} h=>Bi h _ _ _ _ _
 have h1:=hs (P:=fun k=>k≠gs) (by simp);exact⟨h.s.setS hi hx,h.fn.since (hs (fun hk=>h.s.ns gs rfl hk.1)),(h1.block _ (fun e=>h.rs (by rw[e];rfl)) h.rl).trans h.r,(h1.block _ (fun e=>h.fs (by rw[e];rfl)) h.ffl).trans h.f,h.nr,h.nf,h.rp,h.fp,h.rs,h.fs⟩
end
def MR(base p:Nat)(A:Nat->Prop)(m:Md)(states:Int)(cs fs ss ls:Value)(n:Nat)(f:Fu)(fc:Value)(H:Nat->Option Int)(rb fb:Nat)(rx fx:Obj)(o:VOut)(w:World)(g:Nat)(s9 s10:Value)(wr:World):Prop:=
 ∃(q:Nat) (loc stk sts:List V) (fl tr:Int) (a9:Option Addr) (c9:Nat),s9=.slice a9 stk.length c9∧s10=iv q∧VmF base p A m cs fs ss ls f fc rb fb rx fx loc sts fl tr wr∧Al (Bq A ls) wr stk (.slice a9 stk.length c9)∧Fr (fun k=>k≠p∧ss.ownBlock≠some k) w wr ∧
  ((tr=0∧Vst m states n f H q loc stk sts fl∧vmRun it15 m g n q loc stk sts fl=some o∧fl<=4096)∨(tr≠0∧o.trap=tr∧o.fuel=fl∧o.sts=sts))
theorem VmF.done{base p:Nat}{A A1:Nat->Prop}{m:Md}{cs fs ss ls:Value}{f:Fu}{fc:Value}{rb fb:Nat}{rx fx:Obj}{loc sts:List V}{fl tr:Int}{w w' w8:World}(h:VmF base p A1 m cs fs ss ls f fc rb fb rx fx loc sts fl tr w')(hA:∀k,A1 k->A k)(np:¬A p)(ns:∀k,ss.ownBlock=some k->¬A k)(hi:∀k,w.heap.size<=k->A k)(hFr:Fr (fun k=>k≠p∧ss.ownBlock≠some k) w w')(hrb:w.heap.size<=rb)(hpw:p<w.heap.size){x:V}{xs:Value}(hx:IsW (Bq A1 ls) w' x xs)(hf8:Fr (fun k=>k≠rb) w' w8) :
  IsW A w8 x xs∧VmO base p A m cs fs ss sts fl tr w8∧Fr (fun k=>k≠p∧ss.ownBlock≠some k) w w8:=by
 have hb:=h.s.bp;refine⟨(hx.since ⟨hf8.size,fun k hk hl=>hf8.block k (by rintro rfl;exact h.nr hk.1) hl⟩).base (fun k hk _=>hA k hk.1),((h.s.leave.off hf8 h.nr h.rp.symm h.rs (by omega)).whole hA np ns (fun k hk=>hi k (Nat.le_trans (Nat.le_trans hFr.size hf8.size) hk))),?_⟩;exact⟨hf8.os.trans hFr.os,hf8.tape.trans hFr.tape,hf8.output.trans hFr.output,Nat.le_trans hFr.size hf8.size,fun k hk hl=>(hf8.block k (by show k≠rb;omega) (Nat.lt_of_lt_of_le hl hFr.size)).trans (hFr.block k hk hl)⟩
theorem Rm{o:VOut}(h:o.trap≠0):A9 o=V.zero:=by unfold A9;rw[if_neg h]
theorem Gg{o:VOut}(h:o.trap=0):A9 o=o.val:=by unfold A9;rw[if_pos h]
section
variable {base p:Nat} {A:Nat->Prop} {m:Md} {cs fs ss ls:Value} {f:Fu} {fc:Value} {rb fb:Nat} {rx fx:Obj} {loc sts:List V} {fl tr:Int} {wr w4 w5 w6:World}
theorem VmF.push{fl' tr':Int}{sl:Value}(h:VmF base p A m cs fs ss ls f fc rb fb rx fx loc sts fl tr wr)(hB:Below wr.heap.size wr w4)(hf5:Fr (fun k=>k≠p) w4 w5)(hm5:Mc p w5 cs fs ss fl' tr')(ho:∀k,sl.ownBlock=some k->wr.heap.size<=k)(hf6:Fr (fun k=>sl.ownBlock≠some k) w5 w6):VmF base p A m cs fs ss ls f fc rb fb rx fx loc sts fl' tr' w6∧Fr (fun k=>k≠p) wr w6:=by
 have hne:∀k,k<wr.heap.size->sl.ownBlock≠some k:=fun k hk e=>by have:=ho k e;omega
 have s4:=hB.size;have s5:=hf5.size;have hF:Fr (fun k=>k≠p) wr w6:=⟨hf6.os.trans (hf5.os.trans hB.os),hf6.tape.trans (hf5.tape.trans hB.tape),hf6.output.trans (hf5.output.trans hB.output),by have:=hf6.size;omega,fun k hk hl=>(hf6.block k (hne k hl) (by omega)).trans ((hf5.block k hk (by omega)).trans (hB.block k hl))⟩;exact⟨h.box hF (hm5.keep (hf6.block p (hne p h.s.mc.lt) hm5.lt)),hF⟩
end
section
variable {base p:Nat} {A:Nat->Prop} {m:Md} {cs fs ss ls sl:Value} {f:Fu} {fc:Value} {rb fb:Nat} {rx fx:Obj} {loc sts sts':List V} {fl tr fl' tr':Int} {wr w5 w6 w7:World}
def B9(A:Nat->Prop)(ls sl:Value):Nat->Prop:=fun k=>Bq A ls k∧sl.ownBlock≠some k
theorem VmS.call9(h:VmS base p A m cs fs ss ls loc sts fl tr wr)(hf:Fr (fun k=>k≠p) wr w5)(hm:Mc p w5 cs fs ss fl' tr')(ho:∀k,sl.ownBlock=some k->wr.heap.size<=k∧k<w5.heap.size):VmO base p (B9 A ls sl) m cs fs ss sts fl' tr' w5:=by
 have hne:∀k,k<wr.heap.size->sl.ownBlock≠some k:=fun k hk e=>by have:=(ho k e).1;omega
 have hA:∀k,A k->k≠p:=fun k hk e=>h.np (e ▸ hk)
 refine⟨hm,?_,?_,h.tb.fr hf h.le (fun j hj=>by have:=h.bp;show j≠p;omega),h.bp,h.bs,fun hk=>h.np hk.1.1,fun k e hk=>h.ns k e hk.1.1,h.sp,fun k hk=>⟨h.bq (Nat.le_trans hf.size hk),fun e=>by have:=(ho k e).2;omega⟩⟩
 ·exact (h.md.base (B':=B9 A ls sl) (fun k hk hl=>⟨hk,hne k hl⟩)).since ⟨hf.size,fun k hk hl=>hf.block k (hA k hk.1.1) hl⟩
 ·refine (h.st.base (P':=fun k=>B9 A ls sl k∨ss.ownBlock=some k) (fun k hk hl=>?_)).since ⟨hf.size,fun k hk hl=>hf.block k ?_ hl⟩
  ·rcases hk with hk | hk
   ·exact Or.inl ⟨hk,hne k hl⟩
   ·exact Or.inr hk
  ·rcases hk with hk | hk
   ·exact hA k hk.1.1
   ·rintro rfl;exact h.sp hk
theorem VmF.push9(h:VmF base p A m cs fs ss ls f fc rb fb rx fx loc sts fl tr wr)(hf6:Fr (fun k=>k≠p∧ss.ownBlock≠some k) wr w6)(h6:VmO base p (B9 A ls sl) m cs fs ss sts' fl' tr' w6)(ho:∀k,sl.ownBlock=some k->wr.heap.size<=k)(hf7:Fr (fun k=>sl.ownBlock≠some k) w6 w7):VmF base p A m cs fs ss ls f fc rb fb rx fx loc sts' fl' tr' w7∧Fr (fun k=>k≠p∧ss.ownBlock≠some k) wr w7:=by
 have hne:∀k,k<wr.heap.size->sl.ownBlock≠some k:=fun k hk e=>by have:=ho k e;omega
 have hF:Fr (fun k=>k≠p∧ss.ownBlock≠some k) wr w7:=⟨hf7.os.trans hf6.os,hf7.tape.trans hf6.tape,hf7.output.trans hf6.output,Nat.le_trans hf6.size hf7.size,fun k hk hl=>(hf7.block k (hne k hl) (Nat.lt_of_lt_of_le hl hf6.size)).trans (hf6.block k hk hl)⟩;have hAp:∀k,A k->k≠p∧ss.ownBlock≠some k:=fun k hk=>⟨fun e=>h.s.np (e ▸ hk),fun e=>h.s.ns k e hk⟩
 have hpl:=h.s.mc.lt;have hbp:=h.s.bp;have hO7:VmO base p (B9 A ls sl) m cs fs ss sts' fl' tr' w7:=by
  refine⟨h6.mc.keep (hf7.block p (hne p hpl) h6.mc.lt),h6.md.since ⟨hf7.size,fun k hk hl=>hf7.block k hk.2 hl⟩,h6.st.since ⟨hf7.size,fun k hk hl=>hf7.block k ?_ hl⟩,h6.tb.fr hf7 h6.le (fun j hj=>hne j (by omega)),h6.bp,h6.bs,h6.np,h6.ns,h6.sp,fun k hk=>h6.hi k (Nat.le_trans hf7.size hk)⟩;rcases hk with hk | hk
  ·exact hk.2
  ·exact hne k (h.s.st.lt hk).2
 have hB:∀k,B9 A ls sl k->Bq A ls k:=fun k hk=>hk.1
 have hS:VmS base p A m cs fs ss ls loc sts' fl' tr' w7:=
  ⟨hO7.mc,hO7.md.base (fun k hk _=>hB k hk),hO7.st.base (fun k hk _=>by
   rcases hk with hk | hk
   ·exact Or.inl (hB k hk)
   ·exact Or.inr hk),h.s.lc.since ⟨hF.size,fun k hk hl=>hF.block k (hAp k hk) hl⟩,hO7.tb,h.s.bp,h.s.bs,h.s.bl,h.s.np,h.s.ns,h.s.sp,fun k hk=>h.s.hi k (Nat.le_trans hF.size hk)⟩
 exact⟨⟨hS,h.fn.since ⟨hF.size,fun k hk hl=>hF.block k (hAp k hk.1) hl⟩,(hF.block _ ⟨h.rp,h.rs⟩ h.rl).trans h.r,(hF.block _ ⟨h.fp,h.fs⟩ h.ffl).trans h.f,h.nr,h.nf,h.rp,h.fp,h.rs,h.fs⟩,hF⟩
end
end
end Go.Proofs.YtnijcolomoobnaaGreatDoor
