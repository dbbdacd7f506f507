import Derived.Test.YtifebbdjdllfpaaGreatDoorPsC
/- Statements: the parser's reading. -/
namespace Go.Proofs.YtifebbdjdllfpaaGreatDoor
open Go.RowKit
set_option linter.unusedSimpArgs false
set_option linter.unusedVariables false

theorem placeR_res {e : Px.P Px.Ex} (he : Px.Ok e) {l : List Lx.Tok} (hg : Px.Good l) : Px.Res 1 l (placeR e l) := (Px.need_res hg).bind1 fun _ l1 _ a1 => (he l1 a1.good).weak.bind0 fun _ l2 _ a2 => (Px.need_res a2.good).weak.bind0 fun _ l3 _ a3 => Px.Res.here a3.good
def StmtOk (d : Nat) (q : Px.P Px.St) : Prop := ∀ (b ga : Nat) (l : List Lx.Tok) (w : World), Ps b ga l w → Calls Tryz.prog 105 #[.pointer (some ⟨b, 0, none⟩), .int .i64 d] w fun e w' => StPost b ga w (q l) e w'
set_option maxRecDepth 100000 in
set_option maxHeartbeats 16000000 in
theorem pstmt_any {d k : Nat} (hdk : d + (k + 1) = 25) (hexp : ExprOk (d + 1) (Px.expr' k)) (hblk : 1 ≤ k → BlockOk (d + 1) (Px.block k)) : StmtOk d (Px.stmt (Px.expr' k) (Px.block k)) := by
  intro b ga l w h
  have hok := Px.expr'_ok k
  obtain ⟨res, hres⟩ : ∃ res, Aside (res = Px.stmt (Px.expr' k) (Px.block k) l) := ⟨_, rfl⟩
  rw [← hres.out]
  replace hres : Aside (res = _) := hres.out.trans (stmt_forms _ _ l)
  obtain ⟨t, r, rfl, _⟩ := h.head
  have hmf : ∀ (fn : Fn) (first cap : Array Value) (w : World), (Instr.makeFunc fn first cap).run Tryz.prog w = .ok (.func fn first cap) w := fun _ _ _ _ => rfl
  have hbt := h.there
  have hgt := h.gl
  have hB0 := boxes_below w b d zeroS
  have h0 := h.below hB0
  have p0 := boxes_ptr w b d zeroS
  have d0 := boxes_dep w b d zeroS
  have o0 := boxes_out w b d zeroS
  have z0 := boxes_size w b d zeroS
  have hF0 : Fo b w.heap.size w (pboxes w b d zeroS) := Fo.of_below hB0
  have c0 := cell_of_one p0
  have hf3 := tokF3
  have hstf : ∀ (a : Addr) (fn : Fn) (f c : Array Value) (m : Mode) (w : World), (store a (.func fn f c) m).run Tryz.prog w = stored Tryz.prog w a (.func fn f c) m := fun a fn f c m w => run_store Tryz.prog w a _ m rfl
  go_enter Tryz.func105, Tryz.ntmps105
  go_upto_region 1 with fail
  generalize hw0 : ((w.alloc (ptrObj b)).alloc (depObj d)).alloc zeroS = w0
  replace hw0 : pboxes w b d zeroS = w0 := hw0
  rw [hw0] at hB0 h0 p0 d0 o0 z0 hF0 c0
  clear hw0
  have hwg : w.heap.size < w0.heap.size := by omega
  go_wp2_with fail
  refine (pnext_any h0).mono ?_
  rintro e w1 ⟨rfl, hb1⟩
  have hz1 := hb1.size
  have hB3 : Below w1.heap.size w1 ((w1.alloc (sO 0 [] (.slice none 0 0) (.slice none 0 0) (.slice none 0 0) t.place)).alloc (feObj w1.heap.size w.heap.size (w.heap.size + 1))) := ((Below.refl _ _).alloc (Nat.le_refl _) _).alloc (by simp) _
  have hS : SS b ga w1.heap.size (w1.heap.size + 1) d t.place 0 [] (.slice none 0 0) (.slice none 0 0) [] [] [] (t :: r) w ((w1.alloc (sO 0 [] (.slice none 0 0) (.slice none 0 0) (.slice none 0 0) t.place)).alloc (feObj w1.heap.size w.heap.size (w.heap.size + 1))) := by
    refine ⟨(h0.below hb1).below hB3, ⟨(hB3.block _ (by omega)).trans ((hb1.block _ (by omega)).trans p0), (hB3.block _ (by omega)).trans ((hb1.block _ (by omega)).trans d0), ?_, .slice none 0 0, ?_, Gath.nil _ _⟩, (hB3.block _ (by omega)).trans ((hb1.block _ (by omega)).trans o0), (hF0.below hb1 (by omega)).below hB3 (by omega), IsSts.nil' _ _, IsSts.nil' _ _, ⟨hbt, hgt, by omega, by omega⟩⟩
    · have := heap_new (w1.alloc (sO 0 [] (.slice none 0 0) (.slice none 0 0) (.slice none 0 0) t.place)) (feObj w1.heap.size w.heap.size (w.heap.size + 1))
      simpa using this
    · exact (heap_old (by simp)).trans (heap_new w1 _)
  clear hB0 h0 p0 d0 o0 hF0 c0 hb1 hB3
  go_upto_region 11 with fail
  generalize (w1.alloc (sO 0 [] (.slice none 0 0) (.slice none 0 0) (.slice none 0 0) t.place)).alloc (feObj w1.heap.size w.heap.size (w.heap.size + 1)) = w2s at hS ⊢
  generalize w1.heap.size = gs at *
  obtain ⟨ge, hge⟩ : ∃ ge, ge = gs + 1 := ⟨_, rfl⟩
  rw [← hge] at hS ⊢
  clear hge hz1 z0
  rcases hs : Px.sees 1 [108, 101, 116] (t :: r) with _ | _
  rotate_left
  · replace hres : Aside (res = Px.bind (Px.name r) fun u l1 => Px.bind (valueR (Px.expr' k) l1) fun x l4 => .inl (.mk 1 u.text [x] [] [] t.place, l4)) := by
      show _ = _
      rw [hres.out, if_pos hs]; rfl
    obtain ⟨q1, q2, q3, q4, q5⟩ := hS.lts
    have c0 := cell_of_one hS.st.ptr
    go_wp2_with fail
    refine (ptakes_yes hS.ps [108, 101, 116] (by decide) hs).mono ?_
    rintro e w3s ⟨rfl, hPz, hfz⟩
    replace hPz : Ps b ga r w3s := hPz
    have hw3s := hS.call hfz hPz
    clear hs hS hfz hPz c0 q1 q2 q3 q4 q5
    obtain ⟨slz, hxz, hgz⟩ := hw3s.st.box
    have x0 := (cells_of9 hxz).1
    have f0 := (cells_of9 hxz).2.2.2.2.2.2.2.2.2.1
    clear hgz
    obtain ⟨q1, q2, q3, q4, q5⟩ := hw3s.lts
    have hw4s := hw3s.set (j := 0) (v := .int .i64 1) (k' := 1) (b1' := (.slice none 0 0)) (b2' := (.slice none 0 0)) (body' := []) (other' := []) (fun sl hh => by simp [World.setCell, Array.getElem?_modify, hh]) (IsSts.nil' _ _) (IsSts.nil' _ _)
    go_upto_region 13 with fail
    generalize w3s.setCell ⟨gs, 0, none⟩ (.int .i64 1) = w4s at hw4s ⊢
    clear hw3s hxz x0 f0 slz q1 q2 q3 q4 q5
    obtain ⟨o1, o2, o3, o4⟩ := hw4s.lo
    have hlz := hw4s.ps.good
    go_wp2_with fail
    refine (pst_name (by omega) (by omega) (by omega) o4 (by omega) hw4s.ps hw4s.st).mono ?_
    rcases hq : Px.name r with ⟨u, l1⟩ | ⟨a, er⟩
    rotate_left
    · rintro e wz ⟨rfl, hfz⟩
      refine ⟨rfl, ?_⟩
      rw [hres.out, hq]
      exact ⟨rfl, hw4s.fo.trans (hfz.mono (by omega))⟩
    rintro e w5s ⟨rfl, hBz, hPz, hfz⟩
    have hw5s := hw4s.part hBz hPz hfz
    have hll1 : l1.length + 1 ≤ r.length := ((Px.name_res hlz).ok u l1 hq).less
    replace hres : Aside (res = Px.bind (valueR (Px.expr' k) l1) fun x l4 => .inl (.mk 1 u.text [x] [] [] t.place, l4)) := by
      show _ = _
      rw [hres.out, hq]; rfl
    clear hq hw4s hBz hPz hfz hlz o1 o2 o3 o4
    obtain ⟨o1, o2, o3, o4⟩ := hw5s.lo
    have hlz := hw5s.ps.good
    have hfw := hw5s.ps.few
    obtain ⟨q1, q2, q3, q4, q5⟩ := hw5s.lts
    have fe0 := cell_of_one hw5s.st.fe
    go_wp2_with fail
    refine (pst_value (by omega) hok hexp (by omega) (by omega) (by omega) o4 (by omega) hw5s.ps hw5s.st (by simpa using hfw)).mono ?_
    rcases hq : valueR (Px.expr' k) l1 with ⟨x, l4⟩ | ⟨a, er⟩
    rotate_left
    · rintro e wz ⟨rfl, hfz⟩
      refine ⟨rfl, ?_⟩
      rw [hres.out, hq]
      exact ⟨rfl, hw5s.fo.trans (hfz.mono (by omega))⟩
    rintro e w6s ⟨rfl, hBz, hPz, hfz⟩
    have hw6s := hw5s.part hBz hPz hfz
    replace hres : Aside (res = (.inl (.mk 1 u.text [x] [] [] t.place, l4) : Px.R Px.St)) := by
      show _ = _
      rw [hres.out, hq]; rfl
    clear hq hw5s hBz hPz hfz hlz hfw fe0 o1 o2 o3 o4 q1 q2 q3 q4 q5
    obtain ⟨slz, hxz, hgz⟩ := hw6s.st.box
    obtain ⟨az, cz, rfl⟩ := slice_of hgz.choose_spec.1
    have hend := st_ret hw6s hxz hgz
    obtain ⟨y0, y1, y2, y3, y4, y5, y6, y7, y8, _⟩ := cells_of9 hxz
    obtain ⟨e0, e1, e2, e3, e4, e5, e6, e7, e8, m0, m1, m2, m3, m4, m5, m6, m7, m8⟩ := cells_of9 hw6s.out
    obtain ⟨q1, q2, q3, q4, q5⟩ := hw6s.lts
    obtain ⟨o1, o2, o3, o4⟩ := hw6s.lo
    have hne1 : gs ≠ w.heap.size + 1 + 1 := by omega
    have hne2 : w.heap.size + 1 + 1 ≠ gs := by omega
    clear hw6s hgz
    generalize w.heap.size + 1 + 1 = gr at *
    go_wp2
    rw [hres.out]
    exact bodyPost_ret (v := sV 1 u.text (.slice az _ cz) (.slice none 0 0) (.slice none 0 0) t.place) (by simp [results, Tryz.results105, go_sem, e0, e1, e2, e3, e4, e5, e6, e7, e8]) rfl hend
  replace hres : Aside (res = if Px.sees 1 [115, 101, 116] (t :: r) then setR (Px.expr' k) t.place r else if Px.sees 1 [100, 101, 108] (t :: r) then delR (Px.expr' k) t.place r else if Px.sees 1 [105, 102] (t :: r) then ifR (Px.expr' k) (Px.block k) t.place r else if Px.sees 1 [102, 111, 114] (t :: r) then forR (Px.expr' k) (Px.block k) t.place r else retR (Px.expr' k) t.place (t :: r)) := by
    exact hres.out.trans (if_neg (by rw [hs]; simp))
  obtain ⟨q1, q2, q3, q4, q5⟩ := hS.lts
  have c0 := cell_of_one hS.st.ptr
  go_wp2_with fail
  refine (ptakes_no hS.ps [108, 101, 116] hs).mono ?_
  rintro e w7s ⟨rfl, hPz, hbz⟩
  have hw7s := hS.below hbz
  clear hs hS hbz hPz c0 q1 q2 q3 q4 q5
  rcases hs : Px.sees 1 [115, 101, 116] (t :: r) with _ | _
  rotate_left
  · replace hres : Aside (res = Px.bind (Px.name r) fun u l1 => if Px.sees 4 [91] l1 then Px.bind (placeR (Px.expr' k) l1) fun y l2 => Px.bind (valueR (Px.expr' k) l2) fun x l4 => .inl (.mk 2 u.text [y, x] [] [] t.place, l4) else Px.bind (valueR (Px.expr' k) l1) fun x l4 => .inl (.mk 2 u.text [x] [] [] t.place, l4)) := by
      show _ = _
      rw [hres.out, if_pos hs]; rfl
    obtain ⟨q1, q2, q3, q4, q5⟩ := hw7s.lts
    have c0 := cell_of_one hw7s.st.ptr
    go_wp2_with fail
    refine (ptakes_yes hw7s.ps [115, 101, 116] (by decide) hs).mono ?_
    rintro e w8s ⟨rfl, hPz, hfz⟩
    replace hPz : Ps b ga r w8s := hPz
    have hw8s := hw7s.call hfz hPz
    clear hs hw7s hfz hPz c0 q1 q2 q3 q4 q5
    obtain ⟨slz, hxz, hgz⟩ := hw8s.st.box
    have x0 := (cells_of9 hxz).1
    have f0 := (cells_of9 hxz).2.2.2.2.2.2.2.2.2.1
    clear hgz
    obtain ⟨q1, q2, q3, q4, q5⟩ := hw8s.lts
    have hw9s := hw8s.set (j := 0) (v := .int .i64 2) (k' := 2) (b1' := (.slice none 0 0)) (b2' := (.slice none 0 0)) (body' := []) (other' := []) (fun sl hh => by simp [World.setCell, Array.getElem?_modify, hh]) (IsSts.nil' _ _) (IsSts.nil' _ _)
    go_upto_region 17 with fail
    generalize w8s.setCell ⟨gs, 0, none⟩ (.int .i64 2) = w9s at hw9s ⊢
    clear hw8s hxz x0 f0 slz q1 q2 q3 q4 q5
    obtain ⟨o1, o2, o3, o4⟩ := hw9s.lo
    have hlz := hw9s.ps.good
    go_wp2_with fail
    refine (pst_name (by omega) (by omega) (by omega) o4 (by omega) hw9s.ps hw9s.st).mono ?_
    rcases hq : Px.name r with ⟨u, l1⟩ | ⟨a, er⟩
    rotate_left
    · rintro e wz ⟨rfl, hfz⟩
      refine ⟨rfl, ?_⟩
      rw [hres.out, hq]
      exact ⟨rfl, hw9s.fo.trans (hfz.mono (by omega))⟩
    rintro e w10s ⟨rfl, hBz, hPz, hfz⟩
    have hw10s := hw9s.part hBz hPz hfz
    have hll1 : l1.length + 1 ≤ r.length := ((Px.name_res hlz).ok u l1 hq).less
    replace hres : Aside (res = if Px.sees 4 [91] l1 then Px.bind (placeR (Px.expr' k) l1) fun y l2 => Px.bind (valueR (Px.expr' k) l2) fun x l4 => .inl (.mk 2 u.text [y, x] [] [] t.place, l4) else Px.bind (valueR (Px.expr' k) l1) fun x l4 => .inl (.mk 2 u.text [x] [] [] t.place, l4)) := by
      show _ = _
      rw [hres.out, hq]; rfl
    clear hq hw9s hBz hPz hfz hlz o1 o2 o3 o4
    obtain ⟨q1, q2, q3, q4, q5⟩ := hw10s.lts
    have c0 := cell_of_one hw10s.st.ptr
    have hI := pis_any hw10s.ps [91]
    go_wp2_with fail
    refine hI.mono ?_
    rintro e w11s ⟨rfl, hbz⟩
    have hw11s := hw10s.below hbz
    clear hw10s hbz c0 hI q1 q2 q3 q4 q5
    rcases hs2 : Px.sees 4 [91] l1 with _ | _
    · rw [show Px.sees (cls [91]) [91] l1 = false from hs2]
      replace hres : Aside (res = Px.bind (valueR (Px.expr' k) l1) fun x l4 => .inl (.mk 2 u.text [x] [] [] t.place, l4)) := by
        show _ = _
        rw [hres.out, if_neg (by rw [hs2]; simp)]
      clear hs2
      obtain ⟨o1, o2, o3, o4⟩ := hw11s.lo
      have hlz := hw11s.ps.good
      have hfw := hw11s.ps.few
      obtain ⟨q1, q2, q3, q4, q5⟩ := hw11s.lts
      have fe0 := cell_of_one hw11s.st.fe
      go_wp2_with fail
      refine (pst_value (by omega) hok hexp (by omega) (by omega) (by omega) o4 (by omega) hw11s.ps hw11s.st (by simpa using hfw)).mono ?_
      rcases hq : valueR (Px.expr' k) l1 with ⟨x, l4⟩ | ⟨a, er⟩
      rotate_left
      · rintro e wz ⟨rfl, hfz⟩
        refine ⟨rfl, ?_⟩
        rw [hres.out, hq]
        exact ⟨rfl, hw11s.fo.trans (hfz.mono (by omega))⟩
      rintro e w12s ⟨rfl, hBz, hPz, hfz⟩
      have hw12s := hw11s.part hBz hPz hfz
      replace hres : Aside (res = (.inl (.mk 2 u.text [x] [] [] t.place, l4) : Px.R Px.St)) := by
        show _ = _
        rw [hres.out, hq]; rfl
      clear hq hw11s hBz hPz hfz hlz hfw fe0 o1 o2 o3 o4 q1 q2 q3 q4 q5
      obtain ⟨slz, hxz, hgz⟩ := hw12s.st.box
      obtain ⟨az, cz, rfl⟩ := slice_of hgz.choose_spec.1
      have hend := st_ret hw12s hxz hgz
      obtain ⟨y0, y1, y2, y3, y4, y5, y6, y7, y8, _⟩ := cells_of9 hxz
      obtain ⟨e0, e1, e2, e3, e4, e5, e6, e7, e8, m0, m1, m2, m3, m4, m5, m6, m7, m8⟩ := cells_of9 hw12s.out
      obtain ⟨q1, q2, q3, q4, q5⟩ := hw12s.lts
      obtain ⟨o1, o2, o3, o4⟩ := hw12s.lo
      have hne1 : gs ≠ w.heap.size + 1 + 1 := by omega
      have hne2 : w.heap.size + 1 + 1 ≠ gs := by omega
      clear hw12s hgz
      generalize w.heap.size + 1 + 1 = gr at *
      go_wp2
      rw [hres.out]
      exact bodyPost_ret (v := sV 2 u.text (.slice az _ cz) (.slice none 0 0) (.slice none 0 0) t.place) (by simp [results, Tryz.results105, go_sem, e0, e1, e2, e3, e4, e5, e6, e7, e8]) rfl hend
    · rw [show Px.sees (cls [91]) [91] l1 = true from hs2]
      replace hres : Aside (res = Px.bind (placeR (Px.expr' k) l1) fun y l2 => Px.bind (valueR (Px.expr' k) l2) fun x l4 => .inl (.mk 2 u.text [y, x] [] [] t.place, l4)) := by
        show _ = _
        rw [hres.out, if_pos hs2]
      clear hs2
      obtain ⟨o1, o2, o3, o4⟩ := hw11s.lo
      have hlz := hw11s.ps.good
      have hfw := hw11s.ps.few
      obtain ⟨q1, q2, q3, q4, q5⟩ := hw11s.lts
      have fe0 := cell_of_one hw11s.st.fe
      go_wp2_with fail
      refine (pst_place (by omega) hok hexp (by omega) (by omega) (by omega) o4 (by omega) hw11s.ps hw11s.st (by simpa using hfw)).mono ?_
      rcases hq : placeR (Px.expr' k) l1 with ⟨y, l2⟩ | ⟨a, er⟩
      rotate_left
      · rintro e wz ⟨rfl, hfz⟩
        refine ⟨rfl, ?_⟩
        rw [hres.out, hq]
        exact ⟨rfl, hw11s.fo.trans (hfz.mono (by omega))⟩
      rintro e w13s ⟨rfl, hBz, hPz, hfz⟩
      have hw13s := hw11s.part hBz hPz hfz
      replace hres : Aside (res = Px.bind (valueR (Px.expr' k) l2) fun x l4 => .inl (.mk 2 u.text [y, x] [] [] t.place, l4)) := by
        show _ = _
        rw [hres.out, hq]; rfl
      have hly : l2.length ≤ l1.length := by have := ((placeR_res hok hlz).ok y l2 hq).less; omega
      have hfr : r.length + 1 ≤ 4096 := by simpa using h.few
      clear hq hw11s hBz hPz hfz hlz hfw fe0 o1 o2 o3 o4 q1 q2 q3 q4 q5
      obtain ⟨o1, o2, o3, o4⟩ := hw13s.lo
      have hlz := hw13s.ps.good
      have hfw := hw13s.ps.few
      obtain ⟨q1, q2, q3, q4, q5⟩ := hw13s.lts
      have fe0 := cell_of_one hw13s.st.fe
      go_wp2_with fail
      refine (pst_value (by omega) hok hexp (by omega) (by omega) (by omega) o4 (by omega) hw13s.ps hw13s.st (by simp; omega)).mono ?_
      rcases hq : valueR (Px.expr' k) l2 with ⟨x, l4⟩ | ⟨a, er⟩
      rotate_left
      · rintro e wz ⟨rfl, hfz⟩
        refine ⟨rfl, ?_⟩
        rw [hres.out, hq]
        exact ⟨rfl, hw13s.fo.trans (hfz.mono (by omega))⟩
      rintro e w14s ⟨rfl, hBz, hPz, hfz⟩
      have hw14s := hw13s.part hBz hPz hfz
      replace hres : Aside (res = (.inl (.mk 2 u.text [y, x] [] [] t.place, l4) : Px.R Px.St)) := by
        show _ = _
        rw [hres.out, hq]; rfl
      clear hq hw13s hBz hPz hfz hlz hfw fe0 o1 o2 o3 o4 q1 q2 q3 q4 q5
      obtain ⟨slz, hxz, hgz⟩ := hw14s.st.box
      obtain ⟨az, cz, rfl⟩ := slice_of hgz.choose_spec.1
      have hend := st_ret hw14s hxz hgz
      obtain ⟨y0, y1, y2, y3, y4, y5, y6, y7, y8, _⟩ := cells_of9 hxz
      obtain ⟨e0, e1, e2, e3, e4, e5, e6, e7, e8, m0, m1, m2, m3, m4, m5, m6, m7, m8⟩ := cells_of9 hw14s.out
      obtain ⟨q1, q2, q3, q4, q5⟩ := hw14s.lts
      obtain ⟨o1, o2, o3, o4⟩ := hw14s.lo
      have hne1 : gs ≠ w.heap.size + 1 + 1 := by omega
      have hne2 : w.heap.size + 1 + 1 ≠ gs := by omega
      clear hw14s hgz
      generalize w.heap.size + 1 + 1 = gr at *
      go_wp2
      rw [hres.out]
      exact bodyPost_ret (v := sV 2 u.text (.slice az _ cz) (.slice none 0 0) (.slice none 0 0) t.place) (by simp [results, Tryz.results105, go_sem, e0, e1, e2, e3, e4, e5, e6, e7, e8]) rfl hend
  replace hres : Aside (res = if Px.sees 1 [100, 101, 108] (t :: r) then delR (Px.expr' k) t.place r else if Px.sees 1 [105, 102] (t :: r) then ifR (Px.expr' k) (Px.block k) t.place r else if Px.sees 1 [102, 111, 114] (t :: r) then forR (Px.expr' k) (Px.block k) t.place r else retR (Px.expr' k) t.place (t :: r)) := by
    exact hres.out.trans (if_neg (by rw [hs]; simp))
  obtain ⟨q1, q2, q3, q4, q5⟩ := hw7s.lts
  have c0 := cell_of_one hw7s.st.ptr
  go_wp2_with fail
  refine (ptakes_no hw7s.ps [115, 101, 116] hs).mono ?_
  rintro e w15s ⟨rfl, hPz, hbz⟩
  have hw15s := hw7s.below hbz
  clear hs hw7s hbz hPz c0 q1 q2 q3 q4 q5
  rcases hs : Px.sees 1 [100, 101, 108] (t :: r) with _ | _
  rotate_left
  · replace hres : Aside (res = Px.bind (Px.name r) fun u l1 => Px.bind (placeR (Px.expr' k) l1) fun x l4 => Px.bind (Px.need [59] l4) fun _ l5 => .inl (.mk 3 u.text [x] [] [] t.place, l5)) := by
      show _ = _
      rw [hres.out, if_pos hs]; rfl
    obtain ⟨q1, q2, q3, q4, q5⟩ := hw15s.lts
    have c0 := cell_of_one hw15s.st.ptr
    go_wp2_with fail
    refine (ptakes_yes hw15s.ps [100, 101, 108] (by decide) hs).mono ?_
    rintro e w16s ⟨rfl, hPz, hfz⟩
    replace hPz : Ps b ga r w16s := hPz
    have hw16s := hw15s.call hfz hPz
    clear hs hw15s hfz hPz c0 q1 q2 q3 q4 q5
    obtain ⟨slz, hxz, hgz⟩ := hw16s.st.box
    have x0 := (cells_of9 hxz).1
    have f0 := (cells_of9 hxz).2.2.2.2.2.2.2.2.2.1
    clear hgz
    obtain ⟨q1, q2, q3, q4, q5⟩ := hw16s.lts
    have hw17s := hw16s.set (j := 0) (v := .int .i64 3) (k' := 3) (b1' := (.slice none 0 0)) (b2' := (.slice none 0 0)) (body' := []) (other' := []) (fun sl hh => by simp [World.setCell, Array.getElem?_modify, hh]) (IsSts.nil' _ _) (IsSts.nil' _ _)
    go_upto_region 23 with fail
    generalize w16s.setCell ⟨gs, 0, none⟩ (.int .i64 3) = w17s at hw17s ⊢
    clear hw16s hxz x0 f0 slz q1 q2 q3 q4 q5
    obtain ⟨o1, o2, o3, o4⟩ := hw17s.lo
    have hlz := hw17s.ps.good
    go_wp2_with fail
    refine (pst_name (by omega) (by omega) (by omega) o4 (by omega) hw17s.ps hw17s.st).mono ?_
    rcases hq : Px.name r with ⟨u, l1⟩ | ⟨a, er⟩
    rotate_left
    · rintro e wz ⟨rfl, hfz⟩
      refine ⟨rfl, ?_⟩
      rw [hres.out, hq]
      exact ⟨rfl, hw17s.fo.trans (hfz.mono (by omega))⟩
    rintro e w18s ⟨rfl, hBz, hPz, hfz⟩
    have hw18s := hw17s.part hBz hPz hfz
    have hll1 : l1.length + 1 ≤ r.length := ((Px.name_res hlz).ok u l1 hq).less
    replace hres : Aside (res = Px.bind (placeR (Px.expr' k) l1) fun x l4 => Px.bind (Px.need [59] l4) fun _ l5 => .inl (.mk 3 u.text [x] [] [] t.place, l5)) := by
      show _ = _
      rw [hres.out, hq]; rfl
    clear hq hw17s hBz hPz hfz hlz o1 o2 o3 o4
    obtain ⟨o1, o2, o3, o4⟩ := hw18s.lo
    have hlz := hw18s.ps.good
    have hfw := hw18s.ps.few
    obtain ⟨q1, q2, q3, q4, q5⟩ := hw18s.lts
    have fe0 := cell_of_one hw18s.st.fe
    go_wp2_with fail
    refine (pst_place (by omega) hok hexp (by omega) (by omega) (by omega) o4 (by omega) hw18s.ps hw18s.st (by simpa using hfw)).mono ?_
    rcases hq : placeR (Px.expr' k) l1 with ⟨x, l4⟩ | ⟨a, er⟩
    rotate_left
    · rintro e wz ⟨rfl, hfz⟩
      refine ⟨rfl, ?_⟩
      rw [hres.out, hq]
      exact ⟨rfl, hw18s.fo.trans (hfz.mono (by omega))⟩
    rintro e w19s ⟨rfl, hBz, hPz, hfz⟩
    have hw19s := hw18s.part hBz hPz hfz
    replace hres : Aside (res = Px.bind (Px.need [59] l4) fun _ l5 => .inl (.mk 3 u.text [x] [] [] t.place, l5)) := by
      show _ = _
      rw [hres.out, hq]; rfl
    clear hq hw18s hBz hPz hfz hlz hfw fe0 o1 o2 o3 o4 q1 q2 q3 q4 q5
    obtain ⟨q1, q2, q3, q4, q5⟩ := hw19s.lts
    have c0 := cell_of_one hw19s.st.ptr
    go_wp2_with fail
    refine (pneed_any hw19s.ps 4 [59] (by decide) (by decide)).mono ?_
    rcases hq : Px.needK 4 [59] l4 with ⟨uz, l5⟩ | ⟨a, er⟩
    rotate_left
    · rintro e wz ⟨rfl, hfz⟩
      refine ⟨rfl, ?_⟩
      rw [hres.out]
      simp only [Px.need, hq]
      exact ⟨rfl, hw19s.fo.call hfz hw19s.fo.size⟩
    rintro e w20s ⟨v, rfl, rfl, hPz, hfz⟩
    have hw20s := hw19s.call hfz hPz
    replace hres : Aside (res = (.inl (.mk 3 u.text [x] [] [] t.place, l5) : Px.R Px.St)) := by
      show _ = _
      rw [hres.out]
      simp only [Px.need, hq]
      rfl
    clear hq hw19s hfz hPz c0 q1 q2 q3 q4 q5
    obtain ⟨slz, hxz, hgz⟩ := hw20s.st.box
    obtain ⟨az, cz, rfl⟩ := slice_of hgz.choose_spec.1
    have hend := st_ret hw20s hxz hgz
    obtain ⟨y0, y1, y2, y3, y4, y5, y6, y7, y8, _⟩ := cells_of9 hxz
    obtain ⟨e0, e1, e2, e3, e4, e5, e6, e7, e8, m0, m1, m2, m3, m4, m5, m6, m7, m8⟩ := cells_of9 hw20s.out
    obtain ⟨q1, q2, q3, q4, q5⟩ := hw20s.lts
    obtain ⟨o1, o2, o3, o4⟩ := hw20s.lo
    have hne1 : gs ≠ w.heap.size + 1 + 1 := by omega
    have hne2 : w.heap.size + 1 + 1 ≠ gs := by omega
    clear hw20s hgz
    generalize w.heap.size + 1 + 1 = gr at *
    go_wp2
    rw [hres.out]
    exact bodyPost_ret (v := sV 3 u.text (.slice az _ cz) (.slice none 0 0) (.slice none 0 0) t.place) (by simp [results, Tryz.results105, go_sem, e0, e1, e2, e3, e4, e5, e6, e7, e8]) rfl hend
  replace hres : Aside (res = if Px.sees 1 [105, 102] (t :: r) then ifR (Px.expr' k) (Px.block k) t.place r else if Px.sees 1 [102, 111, 114] (t :: r) then forR (Px.expr' k) (Px.block k) t.place r else retR (Px.expr' k) t.place (t :: r)) := by
    exact hres.out.trans (if_neg (by rw [hs]; simp))
  obtain ⟨q1, q2, q3, q4, q5⟩ := hw15s.lts
  have c0 := cell_of_one hw15s.st.ptr
  go_wp2_with fail
  refine (ptakes_no hw15s.ps [100, 101, 108] hs).mono ?_
  rintro e w21s ⟨rfl, hPz, hbz⟩
  have hw21s := hw15s.below hbz
  clear hs hw15s hbz hPz c0 q1 q2 q3 q4 q5
  rcases hs : Px.sees 1 [105, 102] (t :: r) with _ | _
  rotate_left
  · replace hres : Aside (res = Px.bind (Px.expr' k r) fun x l1 => Px.bind (Px.block k l1) fun b l2 => if Px.sees 1 [101, 108, 115, 101] l2 then Px.bind (Px.block k l2.tail) fun c l3 => .inl (.mk 4 [] [x] b c t.place, l3) else .inl (.mk 4 [] [x] b [] t.place, l2)) := by
      show _ = _
      rw [hres.out, if_pos hs]; rfl
    obtain ⟨q1, q2, q3, q4, q5⟩ := hw21s.lts
    have c0 := cell_of_one hw21s.st.ptr
    go_wp2_with fail
    refine (ptakes_yes hw21s.ps [105, 102] (by decide) hs).mono ?_
    rintro e w22s ⟨rfl, hPz, hfz⟩
    replace hPz : Ps b ga r w22s := hPz
    have hw22s := hw21s.call hfz hPz
    clear hs hw21s hfz hPz c0 q1 q2 q3 q4 q5
    obtain ⟨slz, hxz, hgz⟩ := hw22s.st.box
    have x0 := (cells_of9 hxz).1
    have f0 := (cells_of9 hxz).2.2.2.2.2.2.2.2.2.1
    clear hgz
    obtain ⟨q1, q2, q3, q4, q5⟩ := hw22s.lts
    have hw23s := hw22s.set (j := 0) (v := .int .i64 4) (k' := 4) (b1' := (.slice none 0 0)) (b2' := (.slice none 0 0)) (body' := []) (other' := []) (fun sl hh => by simp [World.setCell, Array.getElem?_modify, hh]) (IsSts.nil' _ _) (IsSts.nil' _ _)
    go_upto_region 28 with fail
    generalize w22s.setCell ⟨gs, 0, none⟩ (.int .i64 4) = w23s at hw23s ⊢
    clear hw22s hxz x0 f0 slz q1 q2 q3 q4 q5
    obtain ⟨o1, o2, o3, o4⟩ := hw23s.lo
    have hlz := hw23s.ps.good
    have hfw := hw23s.ps.few
    obtain ⟨q1, q2, q3, q4, q5⟩ := hw23s.lts
    have fe0 := cell_of_one hw23s.st.fe
    go_wp2_with fail
    refine (pstex_any (n := gs) (by omega) hexp (by omega) (by omega) (by omega) o4 (by omega) (Nat.le_refl _) [] r _ hw23s.ps hw23s.st (by omega) (by simpa using hfw)).mono ?_
    rcases hq : Px.expr' k r with ⟨x, l1⟩ | ⟨a, er⟩
    rotate_left
    · rintro e wz ⟨rfl, hfz⟩
      refine ⟨rfl, ?_⟩
      rw [hres.out, hq]
      exact ⟨rfl, hw23s.fo.trans (hfz.mono (by omega))⟩
    rintro e w24s ⟨rfl, hBz, hPz, hfz⟩
    have hk1 : 1 ≤ k := by
      rcases Nat.eq_zero_or_pos k with h0 | h0
      · subst h0; rw [Px.expr'_zero] at hq; simp [Px.fail] at hq
      · exact h0
    have hw24s := hw23s.part (acc' := [x]) hBz hPz hfz
    replace hres : Aside (res = Px.bind (Px.block k l1) fun b l2 => if Px.sees 1 [101, 108, 115, 101] l2 then Px.bind (Px.block k l2.tail) fun c l3 => .inl (.mk 4 [] [x] b c t.place, l3) else .inl (.mk 4 [] [x] b [] t.place, l2)) := by
      show _ = _
      rw [hres.out, hq]; rfl
    clear hq hw23s hBz hPz hfz hlz hfw fe0 o1 o2 o3 o4 q1 q2 q3 q4 q5
    obtain ⟨q1, q2, q3, q4, q5⟩ := hw24s.lts
    obtain ⟨o1, o2, o3, o4⟩ := hw24s.lo
    go_wp2_with fail
    refine (pst_block (by omega) (hblk hk1) hw24s.ps hw24s.st.ptr hw24s.st.dep).mono ?_
    rcases hq : Px.block k l1 with ⟨bb, l2⟩ | ⟨a, er⟩
    rotate_left
    · rintro e wz ⟨rfl, hfz⟩
      refine ⟨rfl, ?_⟩
      rw [hres.out, hq]
      exact ⟨rfl, hw24s.fo.call hfz hw24s.fo.size⟩
    rintro e w25s ⟨v, rfl, hvz, hPz, hfz⟩
    obtain ⟨aa6, nn6, cc6, rfl⟩ := hvz.slc
    have hw25s := hw24s.call hfz hPz
    replace hvz := hvz.base' (B' := From (ge + 1)) (from_mono (by omega))
    replace hres : Aside (res = if Px.sees 1 [101, 108, 115, 101] l2 then Px.bind (Px.block k l2.tail) fun c l3 => .inl (.mk 4 [] [x] bb c t.place, l3) else .inl (.mk 4 [] [x] bb [] t.place, l2)) := by
      show _ = _
      rw [hres.out, hq]; rfl
    clear hq hw24s hfz hPz q1 q2 q3 q4 q5 o1 o2 o3 o4
    obtain ⟨slz, hxz, hgz⟩ := hw25s.st.box
    have x6 := (cells_of9 hxz).2.2.2.2.2.2.1
    have x7 := (cells_of9 hxz).2.2.2.2.2.2.2.1
    have f6 := (cells_of9 hxz).2.2.2.2.2.2.2.2.2.2.2.2.2.2.2.1
    have f7 := (cells_of9 hxz).2.2.2.2.2.2.2.2.2.2.2.2.2.2.2.2.1
    clear hgz
    obtain ⟨q1, q2, q3, q4, q5⟩ := hw25s.lts
    have hw26s := hw25s.set (j := 6) (v := .slice aa6 nn6 cc6) (k' := 4) (b1' := (.slice aa6 nn6 cc6)) (b2' := (.slice none 0 0)) (body' := bb) (other' := []) (fun sl hh => by simp [World.setCell, Array.getElem?_modify, hh]) hvz hw25s.i2
    go_upto_region 30 with fail
    generalize w25s.setCell ⟨gs, 6, none⟩ (.slice aa6 nn6 cc6) = w26s at hw26s ⊢
    clear hw25s hxz x6 x7 f6 f7 slz hvz q1 q2 q3 q4 q5
    rcases hs : Px.sees 1 [101, 108, 115, 101] l2 with _ | _
    · replace hres : Aside (res = .inl (.mk 4 [] [x] bb [] t.place, l2)) := by
        show _ = _
        rw [hres.out, if_neg (by rw [hs]; simp)]
      obtain ⟨q1, q2, q3, q4, q5⟩ := hw26s.lts
      have c0 := cell_of_one hw26s.st.ptr
      go_wp2_with fail
      refine (ptakes_no hw26s.ps [101, 108, 115, 101] hs).mono ?_
      rintro e w27s ⟨rfl, hPz, hbz⟩
      have hw27s := hw26s.below hbz
      clear hs hw26s hbz hPz c0 q1 q2 q3 q4 q5
      obtain ⟨slz, hxz, hgz⟩ := hw27s.st.box
      obtain ⟨az, cz, rfl⟩ := slice_of hgz.choose_spec.1
      have hend := st_ret hw27s hxz hgz
      obtain ⟨y0, y1, y2, y3, y4, y5, y6, y7, y8, _⟩ := cells_of9 hxz
      obtain ⟨e0, e1, e2, e3, e4, e5, e6, e7, e8, m0, m1, m2, m3, m4, m5, m6, m7, m8⟩ := cells_of9 hw27s.out
      obtain ⟨q1, q2, q3, q4, q5⟩ := hw27s.lts
      obtain ⟨o1, o2, o3, o4⟩ := hw27s.lo
      have hne1 : gs ≠ w.heap.size + 1 + 1 := by omega
      have hne2 : w.heap.size + 1 + 1 ≠ gs := by omega
      clear hw27s hgz
      generalize w.heap.size + 1 + 1 = gr at *
      go_wp2
      rw [hres.out]
      exact bodyPost_ret (v := sV 4 [] (.slice az _ cz) (.slice aa6 nn6 cc6) (.slice none 0 0) t.place) (by simp [results, Tryz.results105, go_sem, e0, e1, e2, e3, e4, e5, e6, e7, e8]) rfl hend
    · replace hres : Aside (res = Px.bind (Px.block k l2.tail) fun c l3 => .inl (.mk 4 [] [x] bb c t.place, l3)) := by
        show _ = _
        rw [hres.out, if_pos hs]
      obtain ⟨q1, q2, q3, q4, q5⟩ := hw26s.lts
      have c0 := cell_of_one hw26s.st.ptr
      go_wp2_with fail
      refine (ptakes_yes hw26s.ps [101, 108, 115, 101] (by decide) hs).mono ?_
      rintro e w28s ⟨rfl, hPz, hfz⟩
      skip
      have hw28s := hw26s.call hfz hPz
      clear hs hw26s hfz hPz c0 q1 q2 q3 q4 q5
      obtain ⟨q1, q2, q3, q4, q5⟩ := hw28s.lts
      obtain ⟨o1, o2, o3, o4⟩ := hw28s.lo
      go_wp2_with fail
      refine (pst_block (by omega) (hblk hk1) hw28s.ps hw28s.st.ptr hw28s.st.dep).mono ?_
      rcases hq : Px.block k l2.tail with ⟨cc, l3⟩ | ⟨a, er⟩
      rotate_left
      · rintro e wz ⟨rfl, hfz⟩
        refine ⟨rfl, ?_⟩
        rw [hres.out, hq]
        exact ⟨rfl, hw28s.fo.call hfz hw28s.fo.size⟩
      rintro e w29s ⟨v, rfl, hvz, hPz, hfz⟩
      obtain ⟨aa7, nn7, cc7, rfl⟩ := hvz.slc
      have hw29s := hw28s.call hfz hPz
      replace hvz := hvz.base' (B' := From (ge + 1)) (from_mono (by omega))
      replace hres : Aside (res = (.inl (.mk 4 [] [x] bb cc t.place, l3) : Px.R Px.St)) := by
        show _ = _
        rw [hres.out, hq]; rfl
      clear hq hw28s hfz hPz q1 q2 q3 q4 q5 o1 o2 o3 o4
      obtain ⟨slz, hxz, hgz⟩ := hw29s.st.box
      have x6 := (cells_of9 hxz).2.2.2.2.2.2.1
      have x7 := (cells_of9 hxz).2.2.2.2.2.2.2.1
      have f6 := (cells_of9 hxz).2.2.2.2.2.2.2.2.2.2.2.2.2.2.2.1
      have f7 := (cells_of9 hxz).2.2.2.2.2.2.2.2.2.2.2.2.2.2.2.2.1
      clear hgz
      obtain ⟨q1, q2, q3, q4, q5⟩ := hw29s.lts
      have hw30s := hw29s.set (j := 7) (v := .slice aa7 nn7 cc7) (k' := 4) (b1' := (.slice aa6 nn6 cc6)) (b2' := (.slice aa7 nn7 cc7)) (body' := bb) (other' := cc) (fun sl hh => by simp [World.setCell, Array.getElem?_modify, hh]) hw29s.i1 hvz
      go_upto_region 38 with fail
      generalize w29s.setCell ⟨gs, 7, none⟩ (.slice aa7 nn7 cc7) = w30s at hw30s ⊢
      clear hw29s hxz x6 x7 f6 f7 slz hvz q1 q2 q3 q4 q5
      obtain ⟨slz, hxz, hgz⟩ := hw30s.st.box
      obtain ⟨az, cz, rfl⟩ := slice_of hgz.choose_spec.1
      have hend := st_ret hw30s hxz hgz
      obtain ⟨y0, y1, y2, y3, y4, y5, y6, y7, y8, _⟩ := cells_of9 hxz
      obtain ⟨e0, e1, e2, e3, e4, e5, e6, e7, e8, m0, m1, m2, m3, m4, m5, m6, m7, m8⟩ := cells_of9 hw30s.out
      obtain ⟨q1, q2, q3, q4, q5⟩ := hw30s.lts
      obtain ⟨o1, o2, o3, o4⟩ := hw30s.lo
      have hne1 : gs ≠ w.heap.size + 1 + 1 := by omega
      have hne2 : w.heap.size + 1 + 1 ≠ gs := by omega
      clear hw30s hgz
      generalize w.heap.size + 1 + 1 = gr at *
      go_wp2
      rw [hres.out]
      exact bodyPost_ret (v := sV 4 [] (.slice az _ cz) (.slice aa6 nn6 cc6) (.slice aa7 nn7 cc7) t.place) (by simp [results, Tryz.results105, go_sem, e0, e1, e2, e3, e4, e5, e6, e7, e8]) rfl hend
  replace hres : Aside (res = if Px.sees 1 [102, 111, 114] (t :: r) then forR (Px.expr' k) (Px.block k) t.place r else retR (Px.expr' k) t.place (t :: r)) := by
    exact hres.out.trans (if_neg (by rw [hs]; simp))
  obtain ⟨q1, q2, q3, q4, q5⟩ := hw21s.lts
  have c0 := cell_of_one hw21s.st.ptr
  go_wp2_with fail
  refine (ptakes_no hw21s.ps [105, 102] hs).mono ?_
  rintro e w31s ⟨rfl, hPz, hbz⟩
  have hw31s := hw21s.below hbz
  clear hs hw21s hbz hPz c0 q1 q2 q3 q4 q5
  rcases hs : Px.sees 1 [102, 111, 114] (t :: r) with _ | _
  rotate_left
  · replace hres : Aside (res = Px.bind (Px.name r) fun u l1 => Px.bind (Px.needK 1 [116, 111] l1) fun _ l2 => Px.bind (Px.expr' k l2) fun x l3 => Px.bind (Px.block k l3) fun b l4 => .inl (.mk 5 u.text [x] b [] t.place, l4)) := by
      show _ = _
      rw [hres.out, if_pos hs]; rfl
    obtain ⟨q1, q2, q3, q4, q5⟩ := hw31s.lts
    have c0 := cell_of_one hw31s.st.ptr
    go_wp2_with fail
    refine (ptakes_yes hw31s.ps [102, 111, 114] (by decide) hs).mono ?_
    rintro e w32s ⟨rfl, hPz, hfz⟩
    replace hPz : Ps b ga r w32s := hPz
    have hw32s := hw31s.call hfz hPz
    clear hs hw31s hfz hPz c0 q1 q2 q3 q4 q5
    obtain ⟨slz, hxz, hgz⟩ := hw32s.st.box
    have x0 := (cells_of9 hxz).1
    have f0 := (cells_of9 hxz).2.2.2.2.2.2.2.2.2.1
    clear hgz
    obtain ⟨q1, q2, q3, q4, q5⟩ := hw32s.lts
    have hw33s := hw32s.set (j := 0) (v := .int .i64 5) (k' := 5) (b1' := (.slice none 0 0)) (b2' := (.slice none 0 0)) (body' := []) (other' := []) (fun sl hh => by simp [World.setCell, Array.getElem?_modify, hh]) (IsSts.nil' _ _) (IsSts.nil' _ _)
    go_upto_region 34 with fail
    generalize w32s.setCell ⟨gs, 0, none⟩ (.int .i64 5) = w33s at hw33s ⊢
    clear hw32s hxz x0 f0 slz q1 q2 q3 q4 q5
    obtain ⟨o1, o2, o3, o4⟩ := hw33s.lo
    have hlz := hw33s.ps.good
    go_wp2_with fail
    refine (pst_name (by omega) (by omega) (by omega) o4 (by omega) hw33s.ps hw33s.st).mono ?_
    rcases hq : Px.name r with ⟨u, l1⟩ | ⟨a, er⟩
    rotate_left
    · rintro e wz ⟨rfl, hfz⟩
      refine ⟨rfl, ?_⟩
      rw [hres.out, hq]
      exact ⟨rfl, hw33s.fo.trans (hfz.mono (by omega))⟩
    rintro e w34s ⟨rfl, hBz, hPz, hfz⟩
    have hw34s := hw33s.part hBz hPz hfz
    have hll1 : l1.length + 1 ≤ r.length := ((Px.name_res hlz).ok u l1 hq).less
    replace hres : Aside (res = Px.bind (Px.needK 1 [116, 111] l1) fun _ l2 => Px.bind (Px.expr' k l2) fun x l3 => Px.bind (Px.block k l3) fun b l4 => .inl (.mk 5 u.text [x] b [] t.place, l4)) := by
      show _ = _
      rw [hres.out, hq]; rfl
    clear hq hw33s hBz hPz hfz hlz o1 o2 o3 o4
    obtain ⟨q1, q2, q3, q4, q5⟩ := hw34s.lts
    have c0 := cell_of_one hw34s.st.ptr
    go_wp2_with fail
    refine (pneed_any hw34s.ps 1 [116, 111] (by decide) (by decide)).mono ?_
    rcases hq : Px.needK 1 [116, 111] l1 with ⟨uz, l2⟩ | ⟨a, er⟩
    rotate_left
    · rintro e wz ⟨rfl, hfz⟩
      refine ⟨rfl, ?_⟩
      rw [hres.out]
      simp only [Px.need, hq]
      exact ⟨rfl, hw34s.fo.call hfz hw34s.fo.size⟩
    rintro e w35s ⟨v, rfl, rfl, hPz, hfz⟩
    have hw35s := hw34s.call hfz hPz
    replace hres : Aside (res = Px.bind (Px.expr' k l2) fun x l3 => Px.bind (Px.block k l3) fun b l4 => .inl (.mk 5 u.text [x] b [] t.place, l4)) := by
      show _ = _
      rw [hres.out]
      simp only [Px.need, hq]
      rfl
    clear hq hw34s hfz hPz c0 q1 q2 q3 q4 q5
    obtain ⟨o1, o2, o3, o4⟩ := hw35s.lo
    have hlz := hw35s.ps.good
    have hfw := hw35s.ps.few
    obtain ⟨q1, q2, q3, q4, q5⟩ := hw35s.lts
    have fe0 := cell_of_one hw35s.st.fe
    go_wp2_with fail
    refine (pstex_any (n := gs) (by omega) hexp (by omega) (by omega) (by omega) o4 (by omega) (Nat.le_refl _) [] l2 _ hw35s.ps hw35s.st (by omega) (by simpa using hfw)).mono ?_
    rcases hq : Px.expr' k l2 with ⟨x, l3⟩ | ⟨a, er⟩
    rotate_left
    · rintro e wz ⟨rfl, hfz⟩
      refine ⟨rfl, ?_⟩
      rw [hres.out, hq]
      exact ⟨rfl, hw35s.fo.trans (hfz.mono (by omega))⟩
    rintro e w36s ⟨rfl, hBz, hPz, hfz⟩
    have hk1 : 1 ≤ k := by
      rcases Nat.eq_zero_or_pos k with h0 | h0
      · subst h0; rw [Px.expr'_zero] at hq; simp [Px.fail] at hq
      · exact h0
    have hw36s := hw35s.part (acc' := [x]) hBz hPz hfz
    replace hres : Aside (res = Px.bind (Px.block k l3) fun b l4 => .inl (.mk 5 u.text [x] b [] t.place, l4)) := by
      show _ = _
      rw [hres.out, hq]; rfl
    clear hq hw35s hBz hPz hfz hlz hfw fe0 o1 o2 o3 o4 q1 q2 q3 q4 q5
    obtain ⟨q1, q2, q3, q4, q5⟩ := hw36s.lts
    obtain ⟨o1, o2, o3, o4⟩ := hw36s.lo
    go_wp2_with fail
    refine (pst_block (by omega) (hblk hk1) hw36s.ps hw36s.st.ptr hw36s.st.dep).mono ?_
    rcases hq : Px.block k l3 with ⟨bb, l4⟩ | ⟨a, er⟩
    rotate_left
    · rintro e wz ⟨rfl, hfz⟩
      refine ⟨rfl, ?_⟩
      rw [hres.out, hq]
      exact ⟨rfl, hw36s.fo.call hfz hw36s.fo.size⟩
    rintro e w37s ⟨v, rfl, hvz, hPz, hfz⟩
    obtain ⟨aa6, nn6, cc6, rfl⟩ := hvz.slc
    have hw37s := hw36s.call hfz hPz
    replace hvz := hvz.base' (B' := From (ge + 1)) (from_mono (by omega))
    replace hres : Aside (res = (.inl (.mk 5 u.text [x] bb [] t.place, l4) : Px.R Px.St)) := by
      show _ = _
      rw [hres.out, hq]; rfl
    clear hq hw36s hfz hPz q1 q2 q3 q4 q5 o1 o2 o3 o4
    obtain ⟨slz, hxz, hgz⟩ := hw37s.st.box
    have x6 := (cells_of9 hxz).2.2.2.2.2.2.1
    have x7 := (cells_of9 hxz).2.2.2.2.2.2.2.1
    have f6 := (cells_of9 hxz).2.2.2.2.2.2.2.2.2.2.2.2.2.2.2.1
    have f7 := (cells_of9 hxz).2.2.2.2.2.2.2.2.2.2.2.2.2.2.2.2.1
    clear hgz
    obtain ⟨q1, q2, q3, q4, q5⟩ := hw37s.lts
    have hw38s := hw37s.set (j := 6) (v := .slice aa6 nn6 cc6) (k' := 5) (b1' := (.slice aa6 nn6 cc6)) (b2' := (.slice none 0 0)) (body' := bb) (other' := []) (fun sl hh => by simp [World.setCell, Array.getElem?_modify, hh]) hvz hw37s.i2
    go_upto_region 38 with fail
    generalize w37s.setCell ⟨gs, 6, none⟩ (.slice aa6 nn6 cc6) = w38s at hw38s ⊢
    clear hw37s hxz x6 x7 f6 f7 slz hvz q1 q2 q3 q4 q5
    obtain ⟨slz, hxz, hgz⟩ := hw38s.st.box
    obtain ⟨az, cz, rfl⟩ := slice_of hgz.choose_spec.1
    have hend := st_ret hw38s hxz hgz
    obtain ⟨y0, y1, y2, y3, y4, y5, y6, y7, y8, _⟩ := cells_of9 hxz
    obtain ⟨e0, e1, e2, e3, e4, e5, e6, e7, e8, m0, m1, m2, m3, m4, m5, m6, m7, m8⟩ := cells_of9 hw38s.out
    obtain ⟨q1, q2, q3, q4, q5⟩ := hw38s.lts
    obtain ⟨o1, o2, o3, o4⟩ := hw38s.lo
    have hne1 : gs ≠ w.heap.size + 1 + 1 := by omega
    have hne2 : w.heap.size + 1 + 1 ≠ gs := by omega
    clear hw38s hgz
    generalize w.heap.size + 1 + 1 = gr at *
    go_wp2
    rw [hres.out]
    exact bodyPost_ret (v := sV 5 u.text (.slice az _ cz) (.slice aa6 nn6 cc6) (.slice none 0 0) t.place) (by simp [results, Tryz.results105, go_sem, e0, e1, e2, e3, e4, e5, e6, e7, e8]) rfl hend
  replace hres : Aside (res = retR (Px.expr' k) t.place (t :: r)) := by
    exact hres.out.trans (if_neg (by rw [hs]; simp))
  obtain ⟨q1, q2, q3, q4, q5⟩ := hw31s.lts
  have c0 := cell_of_one hw31s.st.ptr
  go_wp2_with fail
  refine (ptakes_no hw31s.ps [102, 111, 114] hs).mono ?_
  rintro e w39s ⟨rfl, hPz, hbz⟩
  have hw39s := hw31s.below hbz
  clear hs hw31s hbz hPz c0 q1 q2 q3 q4 q5
  replace hres : Aside (res = Px.bind (Px.needK 1 [114, 101, 116] (t :: r)) fun _ l1 => Px.bind (Px.expr' k l1) fun x l2 => Px.bind (Px.need [59] l2) fun _ l3 => .inl (.mk 6 [] [x] [] [] t.place, l3)) := by
    show _ = _
    rw [hres.out]; rfl
  obtain ⟨q1, q2, q3, q4, q5⟩ := hw39s.lts
  have c0 := cell_of_one hw39s.st.ptr
  go_wp2_with fail
  refine (pneed_any hw39s.ps 1 [114, 101, 116] (by decide) (by decide)).mono ?_
  rcases hq : Px.needK 1 [114, 101, 116] (t :: r) with ⟨uz, l1⟩ | ⟨a, er⟩
  rotate_left
  · rintro e wz ⟨rfl, hfz⟩
    refine ⟨rfl, ?_⟩
    rw [hres.out]
    simp only [Px.need, hq]
    exact ⟨rfl, hw39s.fo.call hfz hw39s.fo.size⟩
  rintro e w40s ⟨v, rfl, rfl, hPz, hfz⟩
  have hw40s := hw39s.call hfz hPz
  replace hres : Aside (res = Px.bind (Px.expr' k l1) fun x l2 => Px.bind (Px.need [59] l2) fun _ l3 => .inl (.mk 6 [] [x] [] [] t.place, l3)) := by
    show _ = _
    rw [hres.out]
    simp only [Px.need, hq]
    rfl
  clear hq hw39s hfz hPz c0 q1 q2 q3 q4 q5
  obtain ⟨slz, hxz, hgz⟩ := hw40s.st.box
  have x0 := (cells_of9 hxz).1
  have f0 := (cells_of9 hxz).2.2.2.2.2.2.2.2.2.1
  clear hgz
  obtain ⟨q1, q2, q3, q4, q5⟩ := hw40s.lts
  have hw41s := hw40s.set (j := 0) (v := .int .i64 6) (k' := 6) (b1' := (.slice none 0 0)) (b2' := (.slice none 0 0)) (body' := []) (other' := []) (fun sl hh => by simp [World.setCell, Array.getElem?_modify, hh]) (IsSts.nil' _ _) (IsSts.nil' _ _)
  go_upto_region 9 with fail
  generalize w40s.setCell ⟨gs, 0, none⟩ (.int .i64 6) = w41s at hw41s ⊢
  clear hw40s hxz x0 f0 slz q1 q2 q3 q4 q5
  obtain ⟨o1, o2, o3, o4⟩ := hw41s.lo
  have hlz := hw41s.ps.good
  have hfw := hw41s.ps.few
  obtain ⟨q1, q2, q3, q4, q5⟩ := hw41s.lts
  have fe0 := cell_of_one hw41s.st.fe
  go_wp2_with fail
  refine (pstex_any (n := gs) (by omega) hexp (by omega) (by omega) (by omega) o4 (by omega) (Nat.le_refl _) [] l1 _ hw41s.ps hw41s.st (by omega) (by simpa using hfw)).mono ?_
  rcases hq : Px.expr' k l1 with ⟨x, l2⟩ | ⟨a, er⟩
  rotate_left
  · rintro e wz ⟨rfl, hfz⟩
    refine ⟨rfl, ?_⟩
    rw [hres.out, hq]
    exact ⟨rfl, hw41s.fo.trans (hfz.mono (by omega))⟩
  rintro e w42s ⟨rfl, hBz, hPz, hfz⟩
  have hk1 : 1 ≤ k := by
    rcases Nat.eq_zero_or_pos k with h0 | h0
    · subst h0; rw [Px.expr'_zero] at hq; simp [Px.fail] at hq
    · exact h0
  have hw42s := hw41s.part (acc' := [x]) hBz hPz hfz
  replace hres : Aside (res = Px.bind (Px.need [59] l2) fun _ l3 => .inl (.mk 6 [] [x] [] [] t.place, l3)) := by
    show _ = _
    rw [hres.out, hq]; rfl
  clear hq hw41s hBz hPz hfz hlz hfw fe0 o1 o2 o3 o4 q1 q2 q3 q4 q5
  obtain ⟨q1, q2, q3, q4, q5⟩ := hw42s.lts
  have c0 := cell_of_one hw42s.st.ptr
  go_wp2_with fail
  refine (pneed_any hw42s.ps 4 [59] (by decide) (by decide)).mono ?_
  rcases hq : Px.needK 4 [59] l2 with ⟨uz, l3⟩ | ⟨a, er⟩
  rotate_left
  · rintro e wz ⟨rfl, hfz⟩
    refine ⟨rfl, ?_⟩
    rw [hres.out]
    simp only [Px.need, hq]
    exact ⟨rfl, hw42s.fo.call hfz hw42s.fo.size⟩
  rintro e w43s ⟨v, rfl, rfl, hPz, hfz⟩
  have hw43s := hw42s.call hfz hPz
  replace hres : Aside (res = (.inl (.mk 6 [] [x] [] [] t.place, l3) : Px.R Px.St)) := by
    show _ = _
    rw [hres.out]
    simp only [Px.need, hq]
    rfl
  clear hq hw42s hfz hPz c0 q1 q2 q3 q4 q5
  obtain ⟨slz, hxz, hgz⟩ := hw43s.st.box
  obtain ⟨az, cz, rfl⟩ := slice_of hgz.choose_spec.1
  have hend := st_ret hw43s hxz hgz
  obtain ⟨y0, y1, y2, y3, y4, y5, y6, y7, y8, _⟩ := cells_of9 hxz
  obtain ⟨e0, e1, e2, e3, e4, e5, e6, e7, e8, m0, m1, m2, m3, m4, m5, m6, m7, m8⟩ := cells_of9 hw43s.out
  obtain ⟨q1, q2, q3, q4, q5⟩ := hw43s.lts
  obtain ⟨o1, o2, o3, o4⟩ := hw43s.lo
  have hne1 : gs ≠ w.heap.size + 1 + 1 := by omega
  have hne2 : w.heap.size + 1 + 1 ≠ gs := by omega
  clear hw43s hgz
  generalize w.heap.size + 1 + 1 = gr at *
  go_wp2
  rw [hres.out]
  exact bodyPost_ret (v := sV 6 [] (.slice az _ cz) (.slice none 0 0) (.slice none 0 0) t.place) (by simp [results, Tryz.results105, go_sem, e0, e1, e2, e3, e4, e5, e6, e7, e8]) rfl hend
end Go.Proofs.YtifebbdjdllfpaaGreatDoor
