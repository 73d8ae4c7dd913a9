import Derived.Test.YtolififimldmlaaGreatPart30
import Derived.Test.YtolififimldmlaaGreatPart05
import Derived.Test.YtolififimldmlaaGreatPart26
import Derived.Test.YtolififimldmlaaGreatPart12
import Derived.Test.YtolififimldmlaaGreatPart29
set_option linter.unusedVariables false
set_option linter.unusedSimpArgs false
set_option maxRecDepth 100000
set_option maxHeartbeats 16000000
namespace Go.Proofs.YtolififimldmlaaGreat
section
open Go.RowKit
attribute [local go_sem ↓] Go.wp_at_zero Go.wp_at_succ
attribute [local go_sem] taHoldHoldOfKeeper taHoldSayFrame taHoldOf stampedHold
def SlRet (R:Ending→World→Prop) (e:Ending) (w':World):Prop:=(∃ a n q,e=.returned (.slice a n q))∧R e w'
theorem hearAsHeadHold (R:Ending→World→Prop) (B:Nat) (w:World) (fr vw pl:Int) (HS:∀ z,Below w.heap.size w z→Calls Tryz.prog 188 #[.pointer (some ⟨B,0,none⟩),.agg #[.int .i64 fr,.int .i64 vw,.int .i64 pl]] z (SlRet R)) :
    Calls Tryz.prog 170 #[.pointer (some ⟨B,0,none⟩),.iface 204 (.agg #[.int .i64 fr,.int .i64 vw,.int .i64 pl])] w (SlRet R):=by
  have HH:=hid HS
  clear HS
  go_enter Tryz.func170,Tryz.ntmps170
  go_wp2_with fail
  refine (HH.out _ ((Below.refl _ _).alloc (Nat.le_refl _) _)).mono ?_
  rintro e w1 ⟨⟨a,n,q,rfl⟩,hr⟩
  have HR:=hid hr
  clear hr HH
  go_wp2
  go_ret
  exact ⟨⟨a,n,q,rfl⟩,HR.out⟩
theorem hearOwnHead (R:Ending→World→Prop) (v:PV) (B:Nat) (w:World) (h:v.At w B) (hk:v.kp=3∨v.kp=5) (hv:0≤v.m.view) (hin:v.m.last=v.m.view) (hme:v.m.view % v.kp=v.me) (x:Value) (HS:∀ z,Below w.heap.size w z→Calls Tryz.prog 170 #[.pointer (some ⟨B,0,none⟩),x] z (SlRet R)) :
    Calls Tryz.prog 128 #[.pointer (some ⟨B,0,none⟩),x] w (SlRet R):=by
  have IH:=hid (isHeadV v B w h hv hk)
  have hb1:((v.m.last == v.m.view) && (v.m.view % v.kp == v.me))=true:=by rw [hin,hme];simp
  rw [hb1] at IH
  have HH:=hid HS
  clear HS h hk hv hin hme hb1
  go_enter Tryz.func128,Tryz.ntmps128
  go_wp2_with fail
  refine IH.out.mono ?_
  rintro e X0 ⟨rfl,hb0⟩
  have HB0:=hid hb0
  clear hb0 IH
  go_wp2_with fail
  refine (HH.out _ HB0.out).mono ?_
  rintro e w1 ⟨⟨a,n,q,rfl⟩,hr⟩
  have HR:=hid hr
  clear hr HH
  go_wp2
  go_ret
  exact ⟨⟨a,n,q,rfl⟩,HR.out⟩
theorem hearKeeperOwnHold (R:Ending→World→Prop) (v:PV) (B:Nat) (w:World) (h:v.At w B) (fr vw pl:Int) (hvw:vw=v.m.view) (HS:∀ z,Below w.heap.size w z→Calls Tryz.prog 128 #[.pointer (some ⟨B,0,none⟩),.iface 204 (.agg #[.int .i64 fr,.int .i64 vw,.int .i64 pl])] z (SlRet R)) :
    Calls Tryz.prog 82 #[.pointer (some ⟨B,0,none⟩),.iface 204 (.agg #[.int .i64 fr,.int .i64 vw,.int .i64 pl])] w (SlRet R):=by
  have VV:Hid (∀ z,Below w.heap.size w z→Calls Tryz.prog 88 #[.pointer (some ⟨B,0,none⟩)] z fun e w'=>e=.returned (.int .i64 vw)∧Below z.heap.size z w'):=fun z hz=>by rw [hvw];exact viewV v B z (h.below hz)
  have HH:=hid HS
  have l1:¬ (vw < vw):=by omega
  clear HS h hvw
  go_enter Tryz.func82,Tryz.ntmps82
  go_wp2_with fail
  refine (stamped_go fr vw w).mono ?_
  rintro e X0 ⟨rfl,hb0⟩
  have HB0:=hid hb0
  clear hb0
  go_wp2
  obtain ⟨Y,hY⟩:∃ Y,Y=X0.alloc (.cells #[.int .i64 fr,.int .i64 vw] 151):=⟨_,rfl⟩
  rw [← hY]
  have HBY:Hid (Below w.heap.size w Y):=by show Below _ _ _;rw [hY];exact HB0.out.alloc HB0.out.size _
  have HL:Hid (Y.heap[X0.heap.size]?=some (.cells #[.int .i64 fr,.int .i64 vw] 151 (0,0))):=by show _=_;rw [hY];exact heap_alloc_new X0 _
  clear hY
  refine wp_region_held_drew (S:=fun z:World=>z.heap[X0.heap.size]?=some (.cells #[.int .i64 fr,.int .i64 vw] 151 (0,0))) (by kernel_rfl) HL.out (fun hS=>?_)
  refine tH 0 hS ?_
  try simp only [lA,lB,lC,Act.put,lD,lE,lF]
  refine tH 2 hS ?_
  try simp only [lA,lB,lC,Act.put,lD,lE,lF]
  refine tH 1 hS ?_ (hy:=by (intro w hw;have s0:=cell_of_heap hw 0;have s1:=cell_of_heap hw 1;simp only [List.getElem?_toArray,List.getElem?_cons_zero,List.getElem?_cons_succ] at s0 s1;clear hw;go_simp;try with_reducible rfl))
  try simp only [lA,lB,lC,Act.put,lD,lE,lF]
  refine wpAnyH_ready (rs:=[3]) (by kernel_rfl) (by simp) ?_
  refine AllReadyH.cons rfl (fun K hK=>?_) AllReadyH.nil
  go_simp
  refine (VV.out _ HBY.out.drew).mono ?_
  rintro e X1 ⟨rfl,hbf⟩
  have HB1:=hid (HBY.out.drew.trans (hbf.mono HBY.out.size))
  have HL1:=hid ((hbf.block _ (heap_lt HL.out)).trans HL.out)
  clear hbf
  refine hK.out _ _ HL1.out (fun hS=>?_)
  clear hK K
  refine tH 4 hS ?_
  try simp only [lA,lB,lC,Act.put,lD,lE,lF]
  refine tH 5 hS ?_
  try simp only [lA,lB,lC,Act.put,lD,lE,lF]
  refine wpAnyH_done (by kernel_rfl) ?_ _
  clear hS
  go_wp2
  refine wp_region_held_drew (S:=fun z:World=>z.heap[X0.heap.size]?=some (.cells #[.int .i64 fr,.int .i64 vw] 151 (0,0))) (by kernel_rfl) HL1.out (fun hS=>?_)
  refine tH 0 hS ?_
  try simp only [lA,lB,lC,Act.put,lD,lE,lF]
  refine tH 2 hS ?_
  try simp only [lA,lB,lC,Act.put,lD,lE,lF]
  refine tH 1 hS ?_ (hy:=by (intro w hw;have s0:=cell_of_heap hw 0;have s1:=cell_of_heap hw 1;simp only [List.getElem?_toArray,List.getElem?_cons_zero,List.getElem?_cons_succ] at s0 s1;clear hw;go_simp;try with_reducible rfl))
  try simp only [lA,lB,lC,Act.put,lD,lE,lF]
  refine wpAnyH_ready (rs:=[3]) (by kernel_rfl) (by simp) ?_
  refine AllReadyH.cons rfl (fun K hK=>?_) AllReadyH.nil
  go_simp
  refine (VV.out _ HB1.out.drew).mono ?_
  rintro e X2 ⟨rfl,hbf⟩
  have HB2:=hid (HB1.out.drew.trans (hbf.mono HB1.out.size))
  have HL2:=hid ((hbf.block _ (heap_lt HL1.out)).trans HL1.out)
  clear hbf
  refine hK.out _ _ HL2.out (fun hS=>?_)
  clear hK K
  refine tH 4 hS ?_
  try simp only [lA,lB,lC,Act.put,lD,lE,lF]
  refine tH 5 hS ?_
  try simp only [lA,lB,lC,Act.put,lD,lE,lF]
  refine wpAnyH_done (by kernel_rfl) ?_ _
  clear hS VV
  go_wp2_with fail
  refine (HH.out _ HB2.out).mono ?_
  rintro e w1 ⟨⟨a,n,q,rfl⟩,hr⟩
  have HR:=hid hr
  clear hr HH
  go_wp2
  go_ret
  exact ⟨⟨a,n,q,rfl⟩,HR.out⟩
theorem hearHoldT (R:Ending→World→Prop) (B:Nat) (w:World) (fr vw pl:Int) (HS:∀ z,Below w.heap.size w z→Calls Tryz.prog 82 #[.pointer (some ⟨B,0,none⟩),.iface 204 (.agg #[.int .i64 fr,.int .i64 vw,.int .i64 pl])] z (SlRet R)) :
    Calls Tryz.prog 43 #[.pointer (some ⟨B,0,none⟩),.iface 204 (.agg #[.int .i64 fr,.int .i64 vw,.int .i64 pl])] w (SlRet R):=by
  have HH:=hid HS
  clear HS
  go_enter Tryz.func43,Tryz.ntmps43
  go_wp2_with fail
  refine (HH.out _ (Below.refl _ _)).mono ?_
  rintro e w1 ⟨⟨a,n,q,rfl⟩,hr⟩
  have HR:=hid hr
  clear hr HH
  go_wp2
  go_ret
  exact ⟨⟨a,n,q,rfl⟩,HR.out⟩
end
section
open Go.RowKit
attribute [local go_sem ↓] Go.wp_at_zero Go.wp_at_succ
end
section
theorem byteOf_in {n:Int} (h0:0≤n) (h:n < 256):((byteOf n).toNat:Int)=n:=by
  unfold byteOf
  rw [UInt8.toNat_ofNat'];omega
theorem takeLine_pack (l:Ln) (h:l.ok=true) (r:List UInt8):takeLine (lineBytes l++r)=some (l,r):=by
  obtain ⟨c,t,s⟩:=l
  unfold Ln.ok at h
  simp only [Bool.and_eq_true,decide_eq_true_eq] at h
  obtain ⟨⟨⟨⟨h1,h2⟩,h3⟩,h4⟩,h5⟩:=h
  have e1:=byteOf_in (n:=c) (by omega) (by omega)
  have e2:=byteOf_in (n:=t) (by omega) (by omega)
  have e3:=byteOf_in (n:=(s.length:Int)) (by omega) (by omega)
  have e4:(byteOf (s.length:Int)).toNat=s.length:=by omega
  unfold takeLine lineBytes
  simp only [List.cons_append,List.nil_append,List.length_cons,List.length_append,List.getD_cons_succ,List.getD_cons_zero,e1,e2,e4]
  rw [if_neg (by omega),if_neg (by omega)]
  have e5:3+s.length=s.length+1+1+1:=by omega
  rw [e5]
  simp
theorem takeN_pack:∀ (k:Nat) (ls:List Ln),ls.length=k→(∀ l ∈ ls,l.ok=true)→∀ r,takeN (manyBytes ls++r) k=some (ls,r):=by
  intro k
  induction k with
  | zero=>intro ls e _ r;cases ls with
    | nil=>rfl
    | cons _ _=>simp at e
  | succ k ih =>
    intro ls e hok r
    have hne:ls≠[]:=fun h=>by rw [h] at e;simp at e
    have es:=List.dropLast_concat_getLast hne
    generalize ls.dropLast=l0 at es
    generalize ls.getLast hne=x at es
    subst es
    have hl0:l0.length=k:=by simpa using e
    have h:=ih l0 hl0 (fun l hl=>hok l (by simp [hl])) (lineBytes x++r)
    rw [manyBytes_snoc,List.append_assoc,takeN_step _ _ _ _ h,takeLine_pack x (hok x (by simp))]
    rfl
theorem takeLines_pack (ls:List Ln) (h20:ls.length≤20) (hok:∀ l ∈ ls,l.ok=true):takeLines (linesBytes ls)=some (ls,[]):=by
  have e3:=byteOf_in (n:=(ls.length:Int)) (by omega) (by omega)
  have e4:(byteOf (ls.length:Int)).toNat=ls.length:=by omega
  unfold takeLines linesBytes
  rw [if_neg (by simp)]
  simp only [List.drop_succ_cons,List.drop_zero,List.getD_cons_zero,e4]
  have:=takeN_pack ls.length ls rfl hok []
  rw [List.append_nil] at this
  exact this
theorem getD_app {b r:List UInt8} (h:b.length≠0):(b++r).getD 0 0=b.getD 0 0:=by
  cases b with
  | nil=>simp at h
  | cons x t=>rfl
theorem recOf_app {b r:List UInt8} {p:List UInt8 × Nat} (h:recOf b=some p):recOf (b++r)=some p:=by
  have hl:=recOf_len h
  unfold recOf at h ⊢
  split at h
  · cases h
  · rename_i h0
    split at h
    · cases h
    · rename_i h1
      rw [if_neg (by rw [List.length_append];omega),getD_app h0,if_neg (by rw [List.length_append];omega),List.take_append_of_le_length (by omega)]
      split at h
      · rename_i h2
        rw [if_pos h2]
        cases h
        rw [List.drop_append_of_le_length (by omega),List.take_append_of_le_length (by rw [List.length_drop];omega)]
      · cases h
theorem recBytes_len (inner:List UInt8):(recBytes inner).length=inner.length+3:=by unfold recBytes withChk;simp
theorem recBytes_first (inner:List UInt8) (h:inner.length≤255):((recBytes inner).getD 0 0).toNat=inner.length:=by
  show (byteOf (inner.length:Int)).toNat=_
  have:=byteOf_in (n:=(inner.length:Int)) (by omega) (by omega)
  omega
theorem recOf_rec (inner:List UInt8) (h:inner.length≤255):recOf (recBytes inner)=some (inner,inner.length+3):=by
  have hl:=recBytes_len inner
  have hf:=recBytes_first inner h
  unfold recOf
  rw [if_neg (by omega),hf,if_neg (by omega),if_pos]
  · congr 1
    refine Prod.ext ?_ rfl
    show ((recBytes inner).drop 1).take inner.length=inner
    unfold recBytes withChk
    simp
  · rw [List.take_of_length_le (by omega),strip_iff _ (by omega)]
    have:(recBytes inner).take ((recBytes inner).length - 2)=byteOf (inner.length:Int) :: inner:=by
      rw [hl]
      unfold recBytes withChk
      rw [List.take_left' (by simp)]
    rw [this];rfl
theorem recOf_part (inner:List UInt8) (h:inner.length≤255) (k:Nat) (hk:k < (recBytes inner).length):recOf ((recBytes inner).take k)=none:=by
  have hl:=recBytes_len inner
  have hf:=recBytes_first inner h
  unfold recOf
  cases k with
  | zero=>simp
  | succ k =>
    have e:(((recBytes inner).take (k+1)).getD 0 0).toNat=inner.length:=by
      rw [← hf]
      cases e:recBytes inner with
      | nil=>rw [e] at hl;simp at hl
      | cons x t=>rfl
    rw [if_neg (by rw [List.length_take];omega),e,if_pos (by rw [List.length_take];omega)]
theorem readF_app {d r:List UInt8} {m:Mm}:∀ (f:Nat) (m0:Mm) (at_:Nat),at_≤d.length→d.length+1≤f+at_→readF d f m0 at_=(m,d.length)→∃ f',readF (d++r) (f+r.length) m0 at_=readF (d++r) (f'+r.length) m d.length∧1≤f':=by
  intro f
  induction f with
  | zero=>intro m0 at_ h1 h2 _;omega
  | succ f ih =>
    intro m0 at_ h1 h2 h
    cases e:recOf (d.drop at_) with
    | none =>
      rw [readF_stop e] at h
      cases h
      exact ⟨f+1,rfl,by omega⟩
    | some p =>
      have hl:=recOf_len e
      rw [List.length_drop] at hl
      have e2:recOf ((d++r).drop at_)=some p:=by rw [List.drop_append_of_le_length h1];exact recOf_app e
      cases e3:doesM m0 p.1 with
      | none =>
        rw [readF_no e e3] at h
        cases h
        omega
      | some m' =>
        unfold readF at h
        rw [e] at h
        simp only at h
        rw [e3] at h
        obtain ⟨f',h3,h4⟩:=ih m' (at_+p.2) (by omega) (by omega) h
        refine ⟨f',?_,h4⟩
        rw [← h3,show f+1+r.length=(f+r.length)+1 from by omega]
        conv=>lhs;unfold readF
        rw [e2];simp only;rw [e3]
theorem readD_part {d:List UInt8} {m:Mm} (h:readD d=(m,d.length)) (inner:List UInt8) (hi:inner.length≤255) (k:Nat) (hk:k < (recBytes inner).length):readD (d++(recBytes inner).take k)=(m,d.length):=by
  unfold readD at h ⊢
  obtain ⟨f',h1,h2⟩:=readF_app (r:=(recBytes inner).take k) _ _ _ (Nat.zero_le _) (Nat.le_refl _) h
  rw [List.length_append,show d.length+((recBytes inner).take k).length+1=d.length+1+((recBytes inner).take k).length from by omega,h1]
  exact readF_stop (by rw [List.drop_left];exact recOf_part inner hi k hk) _
theorem readD_rec {d:List UInt8} {m m':Mm} (h:readD d=(m,d.length)) (inner:List UInt8) (hi:inner.length≤255) (hm:doesM m inner=some m'):readD (d++recBytes inner)=(m',(d++recBytes inner).length):=by
  unfold readD at h ⊢
  obtain ⟨f',h1,h2⟩:=readF_app (r:=recBytes inner) _ _ _ (Nat.zero_le _) (Nat.le_refl _) h
  conv=>lhs;rw [List.length_append,show d.length+(recBytes inner).length+1=d.length+1+(recBytes inner).length from by omega,h1]
  obtain ⟨f1,rfl⟩:∃ f1,f'=f1+1:=⟨f' - 1,by omega⟩
  rw [show f1+1+(recBytes inner).length=(f1+(recBytes inner).length)+1 from by omega]
  conv=>lhs;unfold readF
  rw [List.drop_left,recOf_rec inner hi]
  simp only
  rw [hm]
  simp only
  have hl:=recBytes_len inner
  rw [readF_stop (by rw [List.drop_eq_nil_of_le (by rw [List.length_append];omega)];rfl),List.length_append,hl]
theorem readD_take (l:List UInt8):readD (l.take (readD l).2)=((readD l).1,(l.take (readD l).2).length):=by
  have key:∀ (f:Nat) (m0:Mm) (at_:Nat),at_≤l.length→l.length+1≤f+at_→∀ n m,readF l f m0 at_=(m,n)→∀ f2,n+1≤f2+at_→readF (l.take n) f2 m0 at_=(m,n):=by
    intro f
    induction f with
    | zero=>intro m0 at_ h1 h2;omega
    | succ f ih =>
      intro m0 at_ h1 h2 n m h f2 h3
      cases e:recOf (l.drop at_) with
      | none =>
        rw [readF_stop e] at h
        cases h
        exact readF_stop (by rw [List.drop_eq_nil_of_le (by rw [List.length_take];omega)];rfl) _
      | some p =>
        have hl:=recOf_len e
        rw [List.length_drop] at hl
        cases e3:doesM m0 p.1 with
        | none =>
          rw [readF_no e e3] at h
          cases h
          exact readF_stop (by rw [List.drop_eq_nil_of_le (by rw [List.length_take];omega)];rfl) _
        | some m' =>
          have hge:at_+p.2≤n:=by
            have:∀ (f:Nat) (m0:Mm) (a:Nat),a≤(readF l f m0 a).2:=by
              intro f
              induction f with
              | zero=>intro m0 a;exact Nat.le_refl _
              | succ f ih =>
                intro m0 a
                unfold readF
                split
                · exact Nat.le_refl _
                · split
                  · exact Nat.le_refl _
                  · exact Nat.le_trans (by omega) (ih _ _)
            unfold readF at h
            rw [e] at h
            simp only at h
            rw [e3] at h
            have:=this f m' (at_+p.2)
            simp only at h
            rw [h] at this
            exact this
          unfold readF at h
          rw [e] at h
          simp only at h
          rw [e3] at h
          obtain ⟨f3,rfl⟩:∃ f3,f2=f3+1:=⟨f2 - 1,by omega⟩
          have e4:recOf ((l.take n).drop at_)=some p:=by
            have hp:recOf ((l.drop at_).take (n - at_))=some p:=by
              have e':=e
              unfold recOf at e ⊢
              split at e
              · cases e
              · rename_i q0
                split at e
                · cases e
                · rename_i q1
                  split at e
                  · rename_i q2
                    cases e
                    dsimp only at hge hl
                    rw [List.length_drop] at q1
                    have g0:((l.drop at_).take (n - at_)).getD 0 0=(l.drop at_).getD 0 0:=by
                      cases hh:l.drop at_ with
                      | nil=>rw [hh] at q0;simp at q0
                      | cons x t =>
                        obtain ⟨k,hk⟩:∃ k,n - at_=k+1:=⟨n - at_ - 1,by omega⟩
                        rw [hk];rfl
                    rw [if_neg (by rw [List.length_take,List.length_drop];omega),g0,if_neg (by rw [List.length_take,List.length_drop];omega),List.take_take,Nat.min_eq_left (by omega),if_pos q2]
                    congr 1
                    refine Prod.ext ?_ rfl
                    dsimp only
                    rw [List.drop_take,List.take_take,Nat.min_eq_left (by omega)]
                  · cases e
            rw [List.drop_take];exact hp
          unfold readF
          rw [e4]
          simp only
          rw [e3]
          exact ih m' (at_+p.2) (by omega) (by omega) n m h f3 (by omega)
  have hle:=readD_le l
  have hlen:(l.take (readD l).2).length=(readD l).2:=by rw [List.length_take];omega
  have:=key (l.length+1) Mm.zero 0 (Nat.zero_le _) (Nat.le_refl _) (readD l).2 (readD l).1 rfl ((l.take (readD l).2).length+1) (by omega)
  show readF (l.take (readD l).2) ((l.take (readD l).2).length+1) Mm.zero 0=_
  rw [this,hlen]
theorem few2 (a b x:Int):1≤((if x < a then 1 else 0)+(if x < b then 1 else 0):Nat)↔x < (sinks 1 [a,b] 1).getD 1 0:=by
  simp only [sinks,sink,List.getD_cons_succ,List.getD_cons_zero,List.set_cons_succ,List.set_cons_zero]
  repeat' split
  all_goals simp only [List.getD_cons_succ,List.getD_cons_zero] at *
  all_goals omega
theorem few4 (a b c d x:Int):2≤((if x < a then 1 else 0)+(if x < b then 1 else 0)+(if x < c then 1 else 0)+(if x < d then 1 else 0):Nat)↔x < (sinks 3 [a,b,c,d] 1).getD 2 0:=by
  have e1:∀ p q r s:Int,sink [p,q,r,s] 1=if q < p then [q,p,r,s] else [p,q,r,s]:=fun p q r s=>by
    simp only [sink,List.getD_cons_succ,List.getD_cons_zero,List.set_cons_succ,List.set_cons_zero]
  have e2:∀ p q r s:Int,sink [p,q,r,s] 2=if r < q then sink [p,r,q,s] 1 else [p,q,r,s]:=fun p q r s=>by
    conv=>lhs;unfold sink
    simp only [List.getD_cons_succ,List.getD_cons_zero,List.set_cons_succ,List.set_cons_zero]
  have e3:∀ p q r s:Int,sink [p,q,r,s] 3=if s < r then sink [p,q,s,r] 2 else [p,q,r,s]:=fun p q r s=>by
    conv=>lhs;unfold sink
    simp only [List.getD_cons_succ,List.getD_cons_zero,List.set_cons_succ,List.set_cons_zero]
  show _↔x < (sink (sink (sink [a,b,c,d] 1) 2) 3).getD 2 0
  have key:∀ p q r s:Int,p≤q→q≤r→(sink [p,q,r,s] 3).getD 2 0=if s < r then (if s < q then q else s) else r:=fun p q r s h1 h2=>by
    rw [e3]
    by_cases h3:s < r
    · rw [if_pos h3,if_pos h3,e2]
      by_cases h4:s < q
      · rw [if_pos h4,if_pos h4,e1]
        by_cases h5:s < p
        · rw [if_pos h5];rfl
        · rw [if_neg h5];rfl
      · rw [if_neg h4,if_neg h4];rfl
    · rw [if_neg h3,if_neg h3];rfl
  have key2:∀ p q r s:Int,p≤q→(sink (sink [p,q,r,s] 2) 3).getD 2 0=if r < q then (if s < q then (if s < max p r then max p r else s) else q) else (if s < r then (if s < q then q else s) else r):=fun p q r s h1=>by
    rw [e2]
    by_cases h3:r < q
    · rw [if_pos h3,if_pos h3,e1]
      by_cases h4:r < p
      · rw [if_pos h4,key _ _ _ _ (by omega) h1,show max p r=p from by omega]
      · rw [if_neg h4,key _ _ _ _ (by omega) (by omega),show max p r=r from by omega]
    · rw [if_neg h3,if_neg h3,key _ _ _ _ h1 (by omega)]
  rw [e1]
  by_cases h1:b < a
  · rw [if_pos h1,key2 _ _ _ _ (by omega)]
    (repeat' split) <;> omega
  · rw [if_neg h1,key2 _ _ _ _ (by omega)]
    (repeat' split) <;> omega
structure Did where
  os:List OutG
  er:Int
  st:LK
def armNext (a:Int):Int:=if 1 < a then a - 1 else 0
def LK.wrote (s:LK) (inner:List UInt8) (m:Mm):LK:={ s with d:=s.d++recBytes inner,m:=m,arm:=armNext s.arm }
def LK.crash (s:LK) (inner:List UInt8):LK:={ s with lost:=recBytes inner }
def LK.toAll (s:LK) (f:Fr):List OutG:=(othersL s.me s.kp.toNat).map fun t=>⟨false,t,packS f⟩
def toldO (m:Mm) (n:Nat):OutG:=⟨true,(m.ls.getD n Ln.zero).c,packS ⟨9,0,m.view,(n+1:Nat),0,0,⟨(m.ls.getD n Ln.zero).c,(m.ls.getD n Ln.zero).t,[]⟩,[]⟩⟩
def sameTurn (l x:Ln):Bool:=(x.c == l.c) && (x.t == l.t)
def tellsN (m:Mm) (l:Ln) (k:Nat):List OutG:=((List.range k).filter fun n=>sameTurn l (m.ls.getD n Ln.zero)).map (toldO m)
theorem tellsN_succ (m:Mm) (l:Ln) (k:Nat):tellsN m l (k+1)=tellsN m l k++(if sameTurn l (m.ls.getD k Ln.zero) then [toldO m k] else []):=by
  unfold tellsN
  rw [List.range_succ,List.filter_append,List.map_append]
  congr 1
  cases h:sameTurn l (m.ls.getD k Ln.zero)
  · rw [List.filter_cons_of_neg (by rw [h];simp)];rfl
  · rw [List.filter_cons_of_pos (by rw [h])];rfl
def LK.say (s:LK) (l:Ln):Did :=
  if s.me≠0 then ⟨[],0,s⟩
  else if l.t≤turnOf s.m.ls l.c then ⟨tellsN s.m l s.agreed,0,s⟩
  else if 20≤s.m.ls.length then ⟨[],0,s⟩
  else if s.arm=1 then ⟨[],4,s.crash (1 :: lineBytes l)⟩
  else ⟨s.toAll ⟨2,s.me,s.m.view,(s.m.ls.length+1:Nat),s.agreed,0,l,[]⟩,0,s.wrote (1 :: lineBytes l) ⟨s.m.view,s.m.last,s.m.ls++[l]⟩⟩
def LK.held (s:LK) (f:Fr):Did :=
  if (s.m.ls.length:Int) < f.place then ⟨[],0,s⟩
  else ⟨toldL s.m s.agreed (max s.agreed (heldFew (holdsSet s.hs f.frm.toNat (max (s.hs f.frm.toNat) f.place)) s.me s.kp.toNat).toNat - s.agreed),0,
    { s with hs:=holdsSet s.hs f.frm.toNat (max (s.hs f.frm.toNat) f.place),agreed:=max s.agreed (heldFew (holdsSet s.hs f.frm.toNat (max (s.hs f.frm.toNat) f.place)) s.me s.kp.toNat).toNat }⟩
def LK.holding (s:LK) (tk agreed:Int):Did :=
  ⟨[⟨false,tk,packS ⟨3,s.me,s.m.view,s.m.ls.length,0,0,Ln.zero,[]⟩⟩],0,{ s with agreed:=min (max s.agreed agreed.toNat) s.m.ls.length }⟩
def LK.lagging (s:LK) (tk:Int):Did:=⟨[⟨false,tk,packS ⟨8,s.me,s.m.view,0,0,0,Ln.zero,[]⟩⟩],0,s⟩
def LK.prepared (s:LK) (f:Fr):Did :=
  if f.place=s.m.ls.length+1 then
    (if f.line.t≤turnOf s.m.ls f.line.c then ⟨[],0,s⟩ else if s.arm=1 then ⟨[],4,s.crash (1 :: lineBytes f.line)⟩
    else (s.wrote (1 :: lineBytes f.line) ⟨s.m.view,s.m.last,s.m.ls++[f.line]⟩).holding f.frm f.agreed)
  else if (s.m.ls.length:Int) < f.place then s.lagging f.frm else s.holding f.frm f.agreed
def LK.beaten (s:LK) (f:Fr):Did:=if (s.m.ls.length:Int) < f.agreed then s.lagging f.frm else s.holding f.frm f.agreed
def LK.begun (s:LK) (f:Fr):Did :=
  if s.m.ls.length < f.lines.length then
    (if s.arm=1 then ⟨[],4,s.crash (3 :: 0 :: linesBytes f.lines)⟩ else ({ s.wrote (3 :: 0 :: linesBytes f.lines) ⟨0,0,f.lines⟩ with hs:=fun _=>0 }:LK).holding f.frm f.agreed)
  else s.holding f.frm f.agreed
def LK.beginF (s:LK):Fr:=⟨7,s.me,s.m.view,0,s.agreed,0,Ln.zero,s.m.ls⟩
def LK.heardK (s:LK) (f:Fr):Did :=
  if s.me=0 then (if f.kind=3 then s.held f else ⟨[⟨false,f.frm,packS s.beginF⟩],0,s⟩)
  else if f.kind=2 then s.prepared f else if f.kind=4 then s.beaten f else if f.kind=7 then s.begun f else ⟨[],0,s⟩
def LK.heardF (s:LK) (f:Fr):Did :=
  if f.kind=9 then ⟨[],3,s⟩ else if f.kind=1 then s.say f.line else if f.frm=s.me∨s.kp≤f.frm then ⟨[],3,s⟩
  else if (f.kind=2∨f.kind=4∨f.kind=7)∧f.frm≠0 then ⟨[],3,s⟩ else s.heardK f
def LK.heard (s:LK) (b:List UInt8):Did:=if s.dead then ⟨[],5,s⟩ else match unpackR b with
  | none=>⟨[],3,s⟩
  | some f=>s.heardF f
def LK.reminder (s:LK) (t:Int):Fr:=if s.hs t.toNat < s.m.ls.length then ⟨2,s.me,s.m.view,s.hs t.toNat+1,s.agreed,0,s.m.ls.getD (s.hs t.toNat).toNat Ln.zero,[]⟩ else ⟨4,s.me,s.m.view,0,s.agreed,0,Ln.zero,[]⟩
def LK.tick (s:LK):Did:=if s.dead then ⟨[],5,s⟩ else ⟨(othersL s.me s.kp.toNat).map fun t=>⟨false,t,packS (s.reminder t)⟩,0,s⟩
def LK.armed (s:LK) (n:Int):LK:={ s with arm:=max n 0 }
structure IvL (s:LK):Prop where
  conf:ConfOk s.kp s.me s.pa
  v0:s.m.view=0∧s.m.last=0
  rd:readD s.d=(s.m,s.d.length)
  len:s.d.length≤9000000+300 * s.m.ls.length
  lok:linesOk s.m.ls=true
  ag:s.agreed≤s.m.ls.length
  hs:∀ j,0≤s.hs j∧s.hs j≤s.m.ls.length
  few:heldFew s.hs s.me s.kp.toNat≤s.agreed
  arm:0≤s.arm∧s.arm≤9223372036854775807
  lost:s.lost=[]∨∃ inner m',s.lost=recBytes inner∧inner.length≤250∧doesM s.m inner=some m'∧m'.view=0∧m'.last=0∧s.m.ls.length < m'.ls.length
theorem IvL.l20 {s:LK} (h:IvL s):s.m.ls.length≤20:=(linesOk_all h.lok).1
theorem IvL.ok {s:LK} (h:IvL s):s.ok:=by
  have:=h.len
  have:=h.l20
  refine ⟨?_,h.conf,h.ag,h.l20⟩
  rcases h.lost with e | ⟨inner,m',e,hi,_⟩
  · rw [e];simp;omega
  · rw [e,recBytes_len];omega
theorem readF_okM {s:List UInt8}:∀ (f:Nat) (m:Mm) (at_:Nat),(m.last≤m.view∧0≤m.last∧linesOk m.ls=true)→((readF s f m at_).1.last≤(readF s f m at_).1.view∧0≤(readF s f m at_).1.last∧linesOk (readF s f m at_).1.ls=true):=by
  intro f
  induction f with
  | zero=>intro m at_ h;exact h
  | succ f ih =>
    intro m at_ h
    unfold readF
    split
    · exact h
    · split
      · exact h
      · rename_i m' hm
        refine ih _ _ ?_
        have ho:=doesM_ok hm
        unfold okM at ho
        simp only [Bool.and_eq_true,decide_eq_true_eq] at ho
        refine ⟨ho.1.1,?_,ho.2⟩
        unfold doesM at hm
        cases e:candM m _ with
        | none=>rw [e] at hm;cases hm
        | some n =>
          rw [e] at hm
          simp only [Option.bind_some] at hm
          split at hm
          · cases hm
            unfold candM at e
            repeat' split at e
            all_goals first | cases e | skip
            all_goals first | exact h.2.1 | exact Int.natCast_nonneg _
          · cases hm
theorem readD_okM (l:List UInt8) (h:(readD l).1.view=0):(readD l).1.last=0∧linesOk (readD l).1.ls=true:=by
  have:=readF_okM (s:=l) (l.length+1) Mm.zero 0 ⟨by decide,by decide,by decide⟩
  have e:readF l (l.length+1) Mm.zero 0=readD l:=rfl
  rw [e] at this
  exact ⟨by omega,this.2.2⟩
theorem heldFew_zero (me:Int) (n:Nat) (h:n=3∨n=5) (hm:0≤me∧me < n):heldFew (fun _=>0) me n=0:=by
  unfold heldFew
  rcases h with rfl | rfl
  · have:me=0∨me=1∨me=2:=by omega
    rcases this with rfl | rfl | rfl <;> decide
  · have:me=0∨me=1∨me=2∨me=3∨me=4:=by omega
    rcases this with rfl | rfl | rfl | rfl | rfl <;> decide
theorem ConfOk.nat {kp me pa:Int} (h:ConfOk kp me pa):(kp.toNat=3∨kp.toNat=5)∧(kp.toNat:Int)=kp:=by
  rcases h.1 with h | h <;> omega
theorem IvL.made (kp me pa:Int) (l:List UInt8) (hc:ConfOk kp me pa) (hl:l.length≤9000000) (hv:(readD l).1.view=0):IvL (LK.opened kp me pa (l.take (readD l).2) (readD l).1):=by
  obtain ⟨h1,h2⟩:=readD_okM l hv
  refine ⟨hc,⟨hv,h1⟩,readD_take l,?_,h2,Nat.zero_le _,fun j=>⟨Int.le_refl _,Int.natCast_nonneg _⟩,?_,⟨Int.le_refl _,by show (0:Int)≤9223372036854775807;decide⟩,.inl rfl⟩
  · show (l.take (readD l).2).length≤_
    rw [List.length_take];omega
  · show heldFew (fun _=>0) me kp.toNat≤0
    rw [heldFew_zero me _ hc.nat.1 (by have:=hc.2;have:=hc.nat.2;omega)]
    exact Int.le_refl _
theorem IvL.again (s:LK) (keep:Int) (h:IvL s):IvL (LK.opened s.kp s.me s.pa ((s.image keep).take (readD (s.image keep)).2) (readD (s.image keep)).1):=by
  have key:∀ (l:List UInt8) (m:Mm),readD l=(m,l.length)→m.view=0→l.length≤9000000+300 * m.ls.length→IvL (LK.opened s.kp s.me s.pa (l.take (readD l).2) (readD l).1):=by
    intro l m hr hv hl
    obtain ⟨h1,h2⟩:=readD_okM l (by rw [hr];exact hv)
    refine ⟨h.conf,⟨by rw [hr];exact hv,h1⟩,readD_take l,?_,h2,Nat.zero_le _,fun j=>⟨Int.le_refl _,Int.natCast_nonneg _⟩,?_,⟨Int.le_refl _,by show (0:Int)≤9223372036854775807;decide⟩,.inl rfl⟩
    · show (l.take (readD l).2).length≤9000000+300 * (readD l).1.ls.length
      rw [List.length_take,hr];dsimp only;omega
    · show heldFew (fun _=>0) s.me s.kp.toNat≤0
      rw [heldFew_zero s.me _ h.conf.nat.1 (by have:=h.conf.2;have:=h.conf.nat.2;omega)]
      exact Int.le_refl _
  unfold LK.image
  rcases h.lost with e | ⟨inner,m',e,hi,hd,hv,_,hn⟩
  · rw [e,List.take_nil,List.append_nil]
    exact key _ _ h.rd h.v0.1 h.len
  · rw [e]
    rcases Nat.lt_or_ge keep.toNat (recBytes inner).length with hk | hk
    · have hr:=readD_part h.rd inner (by omega) keep.toNat hk
      have hrl:(s.d++(recBytes inner).take keep.toNat).take (readD (s.d++(recBytes inner).take keep.toNat)).2=s.d:=by rw [hr];dsimp only;rw [List.take_left]
      rw [hrl,hr]
      have:=key _ _ h.rd h.v0.1 h.len
      rw [h.rd] at this
      dsimp only at this
      rw [List.take_of_length_le (Nat.le_refl _)] at this
      exact this
    · rw [List.take_of_length_le hk]
      refine key _ m' (readD_rec h.rd inner (by omega) hd) hv ?_
      have:=h.len
      rw [List.length_append,recBytes_len];omega
end
end Go.Proofs.YtolififimldmlaaGreat
