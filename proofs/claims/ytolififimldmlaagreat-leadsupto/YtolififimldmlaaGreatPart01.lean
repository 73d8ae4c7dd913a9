import Derived.WalkKit
import Derived.RegionTactic
import Derived.Deep.RegionHeld
import Derived.Deep.RegionHeld3
import Derived.Deep.RegionHeldLaw
import Derived.Test.YtolififimldmlaaGreatRows
import Derived.WalkSpells
import Derived.WalkLawsBesides
import Derived.Deep.AppendLies
import Derived.Deep.LoopGhost
import Derived.Deep.Light
import Derived.Deep.DrawnRows
import Derived.BigQuiet
import Derived.Deep.QuietTactic
import Derived.Deep.DeepCutAuto
import Derived.Deep.DeepFit
import Derived.Laws.CopyOwn
import Derived.Great.BuildSlice
set_option linter.unusedVariables false
set_option linter.unusedSimpArgs false
set_option maxRecDepth 100000
set_option maxHeartbeats 16000000
namespace Go.Proofs.YtolififimldmlaaGreat
section
theorem lA {α:Type _} {xs:List α} {i:Nat} (h:i < xs.toArray.size):xs.toArray[i]=xs[i]:=List.getElem_toArray h
theorem lB {α:Type _} (a:α) (bs:List α) (h:0 < (a :: bs).length):(a :: bs)[0]=a:=rfl
theorem lC {α:Type _} (a:α) (bs:List α) (i:Nat) (h:i+1 < (a :: bs).length):(a :: bs)[i+1]=bs[i]'(Nat.lt_of_succ_lt_succ h):=rfl
theorem lD {α:Type _} (l:List α) (i:Nat) (a:α):l.toArray.setIfInBounds i a=(l.set i a).toArray:=List.setIfInBounds_toArray l i a
theorem lE {α:Type _} {x:α} {xs:List α} {a:α}:(x :: xs).set 0 a=a :: xs:=rfl
theorem lF {α:Type _} {x:α} {xs:List α} {i:Nat} {a:α}:(x :: xs).set (i+1) a=x :: xs.set i a:=rfl
variable {P:Program} {ops:Array Oper} {Q:Exit→Act→World→Prop} {md:Region.Mode} {S:World→Prop}
theorem tH {oi:Oper} {v:Value} {fuel:Nat} {listed:Array Bool} {a:Act} {w:World} (i:Nat) (hS:S w) (h:wpAnyH P md ops Q S fuel (listed.setIfInBounds i true) (a.put oi.dst v) w)
    (hi:ops[i]?=some oi:=by rfl) (hs:Region.noSelect ops=true:=by kernel_rfl) (hf:Region.free md ops listed i=true:=by kernel_rfl) (hr:(Region.ready md ops listed).contains i=true:=by kernel_rfl)
    (hQ:∀ c a w,Q (.panic c) (a.put oi.dst v) w→Q (.panic c) a w:=by exact fun _ _ _ h=>h) (hg:Region.wanted oi (yielded ops a.tmps)=true:=by rfl)
    (hy:∀ w,S w→(execOp a.eval oi).run P w=.ok (.value v) w:=by (intro w hw;clear hw;go_simp;try with_reducible rfl)):wpAnyH P md ops Q S (fuel+1) listed a w :=
  wpAnyH_take hi hs hf hr hQ (.inl ⟨hg,hy⟩) hS h
theorem tA {oi:Oper} {v:Value} {fuel:Nat} {listed:Array Bool} {a:Act} {w:World} (i:Nat) (h:wpAny P md ops Q fuel (listed.setIfInBounds i true) (a.put oi.dst v) w)
    (hi:ops[i]?=some oi:=by rfl) (hs:Region.noSelect ops=true:=by kernel_rfl) (hf:Region.free md ops listed i=true:=by kernel_rfl) (hr:(Region.ready md ops listed).contains i=true:=by kernel_rfl)
    (hQ:∀ c a w,Q (.panic c) (a.put oi.dst v) w→Q (.panic c) a w:=by exact fun _ _ _ h=>h) (hg:Region.wanted oi (yielded ops a.tmps)=true:=by rfl)
    (hy:∀ w,(execOp a.eval oi).run P w=.ok (.value v) w:=by (intro w;go_simp;try with_reducible rfl)):wpAny P md ops Q (fuel+1) listed a w :=
  wpAny_take hi hs hf hr hQ (.inl ⟨hg,hy⟩) h
theorem sH {oi:Oper} {fuel:Nat} {listed:Array Bool} {a:Act} {w:World} (i:Nat) (hS:S w) (h:wpAnyH P md ops Q S fuel (listed.setIfInBounds i true) (a.put oi.dst undef) w)
    (hi:ops[i]?=some oi:=by rfl) (hs:Region.noSelect ops=true:=by kernel_rfl) (hf:Region.free md ops listed i=true:=by kernel_rfl) (hr:(Region.ready md ops listed).contains i=true:=by kernel_rfl)
    (hQ:∀ c a w,Q (.panic c) (a.put oi.dst undef) w→Q (.panic c) a w:=by exact fun _ _ _ h=>h) (hg:Region.wanted oi (yielded ops a.tmps)=false:=by kernel_rfl):wpAnyH P md ops Q S (fuel+1) listed a w :=
  wpAnyH_take hi hs hf hr hQ (.inr ⟨hg,rfl⟩) hS h
theorem sA {oi:Oper} {fuel:Nat} {listed:Array Bool} {a:Act} {w:World} (i:Nat) (h:wpAny P md ops Q fuel (listed.setIfInBounds i true) (a.put oi.dst undef) w)
    (hi:ops[i]?=some oi:=by rfl) (hs:Region.noSelect ops=true:=by kernel_rfl) (hf:Region.free md ops listed i=true:=by kernel_rfl) (hr:(Region.ready md ops listed).contains i=true:=by kernel_rfl)
    (hQ:∀ c a w,Q (.panic c) (a.put oi.dst undef) w→Q (.panic c) a w:=by exact fun _ _ _ h=>h) (hg:Region.wanted oi (yielded ops a.tmps)=false:=by kernel_rfl):wpAny P md ops Q (fuel+1) listed a w :=
  wpAny_take hi hs hf hr hQ (.inr ⟨hg,rfl⟩) h
end
section
structure Ln where
  c:Int
  t:Int
  s:List UInt8
def Ln.zero:Ln:=⟨0,0,[]⟩
def Ln.ok (l:Ln):Bool:=decide (1≤l.c) && decide (l.c≤9) && decide (1≤l.t) && decide (l.t≤99) && decide (l.s.length≤8)
def turnOf (ls:List Ln) (client:Int):Int:=ls.foldl (fun n l=>if l.c=client∧n < l.t then l.t else n) 0
def riseAt (ls:List Ln) (i:Nat):Bool:=(ls.getD i Ln.zero).ok && decide (turnOf (ls.take i) (ls.getD i Ln.zero).c < (ls.getD i Ln.zero).t)
def linesRise (ls:List Ln) (k:Nat):Bool:=(List.range k).all (riseAt ls)
def linesOk (ls:List Ln):Bool:=linesRise ls ls.length && decide (ls.length≤20)
theorem turnOf_snoc (ls:List Ln) (l:Ln) (c:Int):turnOf (ls++[l]) c=if l.c=c∧turnOf ls c < l.t then l.t else turnOf ls c:=by
  unfold turnOf;rw [List.foldl_append];rfl
theorem take_snoc {α:Type} (l:List α) (k:Nat) (h:k < l.length):l.take (k+1)=l.take k++[l[k]]:=List.take_succ_eq_append_getElem h
theorem getD_at {α:Type} (l:List α) (k:Nat) (d:α) (h:k < l.length):l.getD k d=l[k]:=by simp [List.getD,h]
theorem linesRise_succ (ls:List Ln) (k:Nat):linesRise ls (k+1)=(linesRise ls k && riseAt ls k):=by
  unfold linesRise;rw [List.range_succ,List.all_append];simp
theorem linesRise_le (ls:List Ln) {k n:Nat} (h:k≤n) (hn:linesRise ls n=true):linesRise ls k=true:=by
  unfold linesRise at *
  rw [List.all_eq_true] at *
  intro x hx
  exact hn x (by rw [List.mem_range] at *;omega)
theorem linesRise_false (ls:List Ln) {k:Nat} (hk:k < ls.length) (h:riseAt ls k=false):linesOk ls=false:=by
  unfold linesOk
  have:linesRise ls ls.length=false:=by
    rw [Bool.eq_false_iff];intro e
    have:=linesRise_le ls (show k+1≤ls.length by omega) e
    rw [linesRise_succ,h] at this
    simp at this
  rw [this];rfl
def fieldStr (k:Int):List UInt8 :=
  if k=1 then [49] else if k=2 then [102,118,112,97,49] else if k=3 then [102,118,112] else if k=4 then [102,118,97] else if k=5 then [102,118]
  else if k=6 then [102,118,97,108,110] else if k=7 then [102,118,97,110] else if k=8 then [102,118] else if k=9 then [118,112,49] else []
def memB (l:List UInt8) (c:UInt8):Bool:=l.contains c
theorem memB_hit (l:List UInt8) (c:UInt8) (k:Nat) (hk:k < l.length) (h:(l[k].toNat:Int)=c.toNat):memB l c=true:=by
  unfold memB
  have:l[k]=c:=UInt8.toNat_inj.1 (by omega)
  rw [List.contains_iff_mem,← this];exact List.getElem_mem hk
theorem memB_miss (l:List UInt8) (c:UInt8) (k:Nat) (hk:k < l.length) (h:(l[k].toNat:Int)≠c.toNat) (h0:memB (l.take k) c=false):memB (l.take (k+1)) c=false:=by
  unfold memB at *
  rw [take_snoc l k hk,List.contains_append,h0]
  have:l[k]≠c:=fun e=>h (by rw [e])
  simp [Ne.symm this]
def hasB (k:Int) (c:UInt8):Bool:=memB (fieldStr k) c
def fitsB (is:Bool) (n least most:Int):Bool:=if is then decide (least≤n) && decide (n≤most) else n == 0
def byteOf (n:Int):UInt8:=UInt8.ofNat (n % 256).toNat
def lineBytes (l:Ln):List UInt8:=[byteOf l.c,byteOf l.t,byteOf l.s.length]++l.s
def manyBytes (ls:List Ln):List UInt8:=ls.flatMap lineBytes
def linesBytes (ls:List Ln):List UInt8:=byteOf ls.length :: manyBytes ls
def chk (l:List UInt8):Nat:=l.foldl (fun s b=>(s * 31+b.toNat) % 65536) 7
def withChk (l:List UInt8):List UInt8:=l++[UInt8.ofNat (chk l % 256),UInt8.ofNat (chk l / 256)]
theorem manyBytes_snoc (ls:List Ln) (l:Ln):manyBytes (ls++[l])=manyBytes ls++lineBytes l:=by simp [manyBytes]
theorem chk_snoc (l:List UInt8) (b:UInt8):chk (l++[b])=(chk l * 31+b.toNat) % 65536:=by unfold chk;rw [List.foldl_append];rfl
theorem chk_lt (l:List UInt8):chk l < 65536:=by
  unfold chk
  have:∀ (l:List UInt8) (n:Nat),n < 65536→l.foldl (fun s b=>(s * 31+b.toNat) % 65536) n < 65536:=by
    intro l
    induction l with
    | nil=>intro n h;exact h
    | cons a l ih=>intro n h;rw [List.foldl_cons];exact ih _ (Nat.mod_lt _ (by omega))
  exact this l 7 (by omega)
structure Fr where
  kind:Int
  frm:Int
  view:Int
  place:Int
  agreed:Int
  last:Int
  line:Ln
  lines:List Ln
def Ln.isZero (l:Ln):Bool:=(l.c == 0) && (l.t == 0) && l.s.isEmpty
def Fr.ok (f:Fr):Bool :=
  decide (1≤f.kind) && decide (f.kind≤9) && fitsB (hasB f.kind 102) f.frm 0 4 && fitsB (hasB f.kind 118) f.view 0 100 && fitsB (hasB f.kind 112) f.place (if hasB f.kind 49 then 1 else 0) 20 &&
  fitsB (hasB f.kind 97) f.agreed 0 20 && fitsB (hasB f.kind 108) f.last 0 100 &&
  (if hasB f.kind 49 then f.line.ok else f.line.isZero) && !(f.kind == 9 && !f.line.s.isEmpty) && (if hasB f.kind 110 then linesOk f.lines else f.lines.isEmpty)
theorem linesOk_all {ls:List Ln} (h:linesOk ls=true):ls.length≤20∧∀ l ∈ ls,l.ok=true:=by
  unfold linesOk at h
  simp only [Bool.and_eq_true,decide_eq_true_eq] at h
  refine ⟨h.2,fun l hl=>?_⟩
  obtain ⟨i,hi,e⟩:=List.getElem_of_mem hl
  have h1:=h.1
  unfold linesRise at h1
  rw [List.all_eq_true] at h1
  have:=h1 i (by simpa using hi)
  unfold riseAt at this
  rw [getD_at ls i _ hi,e] at this
  simp only [Bool.and_eq_true] at this
  exact this.1
theorem Ln.ok_len {l:Ln} (h:l.ok=true):l.s.length≤8:=by
  unfold Ln.ok at h
  simp only [Bool.and_eq_true,decide_eq_true_eq] at h
  exact h.2
theorem Fr.ok_parts {f:Fr} (h:f.ok=true):1≤f.kind∧f.kind≤9∧(hasB f.kind 49=true→f.line.ok=true)∧(hasB f.kind 49=false→f.line.isZero=true)∧(hasB f.kind 110=true→linesOk f.lines=true)∧(hasB f.kind 110=false→f.lines=[]):=by
  unfold Fr.ok at h
  simp only [Bool.and_eq_true,decide_eq_true_eq] at h
  obtain ⟨⟨⟨⟨⟨⟨⟨⟨⟨h1,h2⟩,_⟩,_⟩,_⟩,_⟩,_⟩,h3⟩,_⟩,h4⟩:=h
  refine ⟨h1,h2,fun e=>by rw [e] at h3;simpa using h3,fun e=>by rw [e] at h3;simpa using h3,fun e=>by rw [e] at h4;simpa using h4,fun e=>by rw [e] at h4;simpa using h4⟩
theorem manyBytes_len (ls:List Ln) (h:∀ l ∈ ls,l.ok=true):(manyBytes ls).length≤11 * ls.length:=by
  induction ls with
  | nil=>simp [manyBytes]
  | cons a l ih =>
    have h1:=ih (fun x hx=>h x (List.mem_cons_of_mem _ hx))
    have h2:=Ln.ok_len (h a (List.mem_cons_self ..))
    unfold manyBytes at *
    rw [List.flatMap_cons,List.length_append,List.length_cons]
    have:(lineBytes a).length=a.s.length+3:=by simp [lineBytes]
    omega
def Fr.head (f:Fr):List UInt8:=[byteOf f.kind,byteOf f.frm,byteOf f.view,byteOf f.place,byteOf f.agreed,byteOf f.last]
def Fr.body (f:Fr):List UInt8:=f.head++(if hasB f.kind 49 then lineBytes f.line else [])++(if hasB f.kind 110 then linesBytes f.lines else [])
def Fr.bytes (f:Fr):List UInt8:=withChk f.body
theorem Fr.body_len {f:Fr} (h:f.ok=true):f.body.length≤300:=by
  obtain ⟨_,_,h1,_,h2,_⟩:=Fr.ok_parts h
  unfold Fr.body
  rw [List.length_append,List.length_append]
  have e0:f.head.length=6:=rfl
  have e1:(if hasB f.kind 49 then lineBytes f.line else []).length≤11:=by
    split
    · rename_i e
      have:=Ln.ok_len (h1 e)
      have:(lineBytes f.line).length=f.line.s.length+3:=by simp [lineBytes]
      omega
    · simp
  have e2:(if hasB f.kind 110 then linesBytes f.lines else []).length≤221:=by
    split
    · rename_i e
      obtain ⟨a,b⟩:=linesOk_all (h2 e)
      have:=manyBytes_len f.lines b
      unfold linesBytes
      rw [List.length_cons];omega
    · simp
  omega
def packS (f:Fr):List UInt8:=if f.ok then f.bytes else []
def packE (f:Fr):Int:=if f.ok then 0 else 3
def takeLine (b:List UInt8):Option (Ln × List UInt8) :=
  if b.length < 3 then none else if b.length < 3+(b.getD 2 0).toNat then none
  else some (⟨(b.getD 0 0).toNat,(b.getD 1 0).toNat,(b.drop 3).take (b.getD 2 0).toNat⟩,b.drop (3+(b.getD 2 0).toNat))
def tlLine (b:List UInt8):Ln:=((takeLine b).map (·.1)).getD Ln.zero
def tlRest (b:List UInt8):List UInt8:=((takeLine b).map (·.2)).getD []
def tlOk (b:List UInt8):Bool:=(takeLine b).isSome
def fallOf (ops:Array Oper) (o:Oper) (a:Act):Option Value :=
  if Region.wanted o (yielded ops a.tmps) then
    match o.op with
    | .move (.tmp t)=>match a.tmps[t]? with
      | some (.bool false)=>some (.bool false)
      | _=>none
    | .assign (.tmp t)=>match a.tmps[t]? with
      | some (.bool false)=>some (.bool false)
      | _=>none
    | .pick (.tmp t) _ (.const (.bool false))=>match a.tmps[t]? with
      | some (.bool false)=>some (.bool false)
      | _=>none
    | _=>none
  else some undef
def fallsOk (md:Region.Mode) (ops:Array Oper):List (Nat × Nat × Bool)→Array Bool→Act→Bool
  | [],_,_=>true
  | (i,d,b) :: is,listed,a =>
    match ops[i]? with
    | none=>false
    | some o=>Region.free md ops listed i && (Region.ready md ops listed).contains i && (match o.dst with | some d'=>d' == d | none=>false) &&
      (match fallOf ops o a with | some (.bool false)=>b | some _=>!b && !Region.wanted o (yielded ops a.tmps) | none=>false) &&
      fallsOk md ops is (listed.setIfInBounds i true) (a.put (some d) (if b then .bool false else undef))
def fallsAct:List (Nat × Nat × Bool)→Act→Act
  | [],a=>a
  | (_,d,b) :: is,a=>fallsAct is (a.put (some d) (if b then .bool false else undef))
def fallsList:List (Nat × Nat × Bool)→Array Bool→Array Bool
  | [],l=>l
  | (i,_,_) :: is,l=>fallsList is (l.setIfInBounds i true)
theorem fall_yields {P:Program} {ops:Array Oper} {o:Oper} {a:Act} {v:Value} (h:fallOf ops o a=some v):Yields P ops o v a:=by
  unfold fallOf at h
  split at h
  · rename_i hw
    have key:∀ t:Tmp,a.tmps[t]?=some (.bool false)→a.eval (.tmp t)=.bool false:=fun t e=>by simp [Act.eval,e]
    refine Or.inl ⟨hw,fun w=>?_⟩
    split at h
    · rename_i t ho
      split at h
      · rename_i e;cases h;simp [execOp,ho,key t e]
      · cases h
    · rename_i t ho
      split at h
      · rename_i e;cases h;simp [execOp,ho,key t e]
      · cases h
    · rename_i t x ho
      split at h
      · rename_i e;cases h;simp [execOp,ho,Act.eval,e,asBool]
      · cases h
    · cases h
  · rename_i hw
    cases h
    exact Or.inr ⟨by simpa using hw,rfl⟩
theorem wpAny_falls {P:Program} {md:Region.Mode} {ops:Array Oper} {Q:Exit→Act→World→Prop} (hs:Region.noSelect ops=true) (hQ:∀ c a d v w,Q (.panic c) (a.put d v) w→Q (.panic c) a w) :
    ∀ (is:List (Nat × Nat × Bool)) (fuel F:Nat) (listed:Array Bool) (a:Act) (w:World),fallsOk md ops is listed a=true→F=is.length+fuel→wpAny P md ops Q fuel (fallsList is listed) (fallsAct is a) w→wpAny P md ops Q F listed a w:=by
  intro is
  induction is with
  | nil=>intro fuel F listed a w _ hF h;rw [hF,List.length_nil,Nat.zero_add];exact h
  | cons x is ih =>
    obtain ⟨i,d,b⟩:=x
    intro fuel F listed a w hk hF h
    unfold fallsOk at hk
    cases hi:ops[i]? with
    | none=>rw [hi] at hk;cases hk
    | some o =>
      rw [hi] at hk
      simp only [Bool.and_eq_true] at hk
      obtain ⟨⟨⟨⟨h1,h2⟩,h3⟩,h4⟩,h5⟩:=hk
      have e:F=is.length+fuel+1:=by rw [hF,List.length_cons];omega
      have hd:o.dst=some d:=by
        split at h3
        · rename_i d' e;rw [e];simpa using h3
        · cases h3
      have hy:Yields P ops o (if b then .bool false else undef) a:=by
        split at h4
        · rename_i e;rw [h4,if_pos rfl];exact fall_yields e
        · rename_i v e _
          simp only [Bool.and_eq_true,Bool.not_eq_true'] at h4
          rw [h4.1]
          exact Or.inr ⟨h4.2,rfl⟩
        · cases h4
      rw [e]
      exact wpAny_take hi hs h1 h2 (fun c a w=>hQ c a _ _ w) hy (by rw [hd];exact ih fuel _ _ _ w h5 rfl h)
theorem wpAnyH_falls {P:Program} {md:Region.Mode} {ops:Array Oper} {Q:Exit→Act→World→Prop} {S:World→Prop} (hs:Region.noSelect ops=true) (hQ:∀ c a d v w,Q (.panic c) (a.put d v) w→Q (.panic c) a w) :
    ∀ (is:List (Nat × Nat × Bool)) (fuel F:Nat) (listed:Array Bool) (a:Act) (w:World),S w→fallsOk md ops is listed a=true→F=is.length+fuel→wpAnyH P md ops Q S fuel (fallsList is listed) (fallsAct is a) w→wpAnyH P md ops Q S F listed a w:=by
  intro is
  induction is with
  | nil=>intro fuel F listed a w _ _ hF h;rw [hF,List.length_nil,Nat.zero_add];exact h
  | cons x is ih =>
    obtain ⟨i,d,b⟩:=x
    intro fuel F listed a w hS hk hF h
    unfold fallsOk at hk
    cases hi:ops[i]? with
    | none=>rw [hi] at hk;cases hk
    | some o =>
      rw [hi] at hk
      simp only [Bool.and_eq_true] at hk
      obtain ⟨⟨⟨⟨h1,h2⟩,h3⟩,h4⟩,h5⟩:=hk
      have e:F=is.length+fuel+1:=by rw [hF,List.length_cons];omega
      have hd:o.dst=some d:=by
        split at h3
        · rename_i d' e;rw [e];simpa using h3
        · cases h3
      have hy:Yields P ops o (if b then .bool false else undef) a:=by
        split at h4
        · rename_i e;rw [h4,if_pos rfl];exact fall_yields e
        · rename_i v e _
          simp only [Bool.and_eq_true,Bool.not_eq_true'] at h4
          rw [h4.1]
          exact Or.inr ⟨h4.2,rfl⟩
        · cases h4
      rw [e]
      exact wpAnyH_take hi hs h1 h2 (fun c a w=>hQ c a _ _ w) hy.yieldsIf hS (by rw [hd];exact ih fuel _ _ _ w hS h5 rfl h)
end
section
open Go.RowKit
def sg (m i:Nat):Nat:=(m+i * (1+m / 256)) % 256
theorem hid {p:Prop} (h:p):Hid p:=h
theorem ret_bool {a b:Bool} (h:a=b):Ending.returned (.bool a)=.returned (.bool b):=by rw [h]
theorem ret_int {k:IntKind} {a b:Int} (h:a=b):Ending.returned (.int k a)=.returned (.int k b):=by rw [h]
theorem sg_wrap (m i:Nat):wrap64 ((m:Int)+wrap64 ((i:Int) * (1+(m:Int) / 256))) % 256=(sg m i:Int):=by
  have e:((i:Int) * (1+(m:Int) / 256))=((i * (1+m / 256):Nat):Int):=by
    rw [Int.natCast_mul,Int.natCast_add,Int.natCast_ediv];rfl
  rw [e]
  unfold sg
  generalize i * (1+m / 256)=p
  unfold wrap64
  omega
theorem sign_any (m i:Nat) (w:World) (hm:m≤100000000) (hi:i≤100000000) :
    Calls Tryz.prog 112 #[.int .i64 m,.int .i64 i] w fun e w'=>e=.returned (.int .u8 (sg m i))∧w'=w:=by
  go_enter Tryz.func112,Tryz.ntmps112
  go_wp2
  go_ret
  exact ⟨ret_int (sg_wrap m i),rfl⟩
theorem conv1 (q c:Nat) (x:Int) (w:World) (h:w.cell? ⟨q,0,none⟩=some (.int .u8 x)) :
    (convert 31 9 (.slice (some ⟨q,0,none⟩) 1 c)).run Tryz.prog w=.ok (.string (strOfNums [x])) w :=
  run_convert_bytes_arg w 31 5 Tryz.underlying31 Tryz.underlying5 q 0 1 c [x] rfl (fun i hi=>by
    have:i=0:=by omega
    subst this;exact h) 9 Tryz.underlying9
end
section
open Go.RowKit
attribute [local go_sem ↓] Go.wp_at_zero Go.wp_at_succ
def sl (b:Option Nat) (n c:Nat):Value:=.slice (b.map fun g=>⟨g,0,none⟩) n c
structure HG where
  p:Nat
  b:Option Nat
  bn:Nat
  bc:Nat
  l:Option Nat
  ln:Nat
  lc:Nat
  o:Option Nat
  on:Nat
  oc:Nat
  q:Nat→Nat
  m:Nat
structure HoldIs (w:World) (h:HG):Prop where
  c0:w.cell? ⟨h.p,0,none⟩=some (sl h.b h.bn h.bc)
  c1:w.cell? ⟨h.p,1,none⟩=some (sl h.l h.ln h.lc)
  c2:w.cell? ⟨h.p,2,none⟩=some (sl h.o h.on h.oc)
  c3:w.cell? ⟨h.p,3,none⟩=some (.int .i64 h.m)
  bs:∀ j,j < h.bn→∃ g,h.b=some g∧w.cell? ⟨g,j,none⟩=some (.int .u8 (sg h.m j))
  ls:∀ j,j < h.ln→∃ g,h.l=some g∧w.cell? ⟨g,j * 3,none⟩=some (.int .i64 77)∧w.cell? ⟨g,j * 3+1,none⟩=some (.int .i64 h.m)∧w.cell? ⟨g,j * 3+2,none⟩=some (.string ⟨#[]⟩)
  os:∀ j,j < h.on→∃ g c,h.o=some g∧w.cell? ⟨g,j * 3,none⟩=some (.bool false)∧w.cell? ⟨g,j * 3+1,none⟩=some (.int .i64 h.m)∧w.cell? ⟨g,j * 3+2,none⟩=some (.slice (some ⟨h.q j,0,none⟩) 1 c) ∧
    w.cell? ⟨h.q j,0,none⟩=some (.int .u8 ((h.m:Int) % 256))
theorem marked_any (h:HG) (w:World) (hh:HoldIs w h) (hm:h.m≤100000000) (h1:h.bn≤100000000) (h2:h.ln≤100000000) (h3:h.on≤100000000) :
    Calls Tryz.prog 67 #[.pointer (some ⟨h.p,0,none⟩)] w fun e w'=>e=.returned (.bool true)∧Below w.heap.size w w':=by
  obtain ⟨p,b,bn,bc,l,ln,lc,o,on,oc,qf,m⟩:=h
  obtain ⟨c0,c1,c2,c3,bs,ls,os⟩:=hh
  dsimp only at *
  have hbs:Hid (∀ j,j < bn→∃ g,b=some g∧w.cell? ⟨g,j,none⟩=some (.int .u8 (sg m j))):=bs
  have hls:Hid (∀ j,j < ln→∃ g,l=some g∧w.cell? ⟨g,j * 3,none⟩=some (.int .i64 77)∧w.cell? ⟨g,j * 3+1,none⟩=some (.int .i64 m)∧w.cell? ⟨g,j * 3+2,none⟩=some (.string ⟨#[]⟩)):=ls
  have hos:Hid (∀ j,j < on→∃ g c,o=some g∧w.cell? ⟨g,j * 3,none⟩=some (.bool false)∧w.cell? ⟨g,j * 3+1,none⟩=some (.int .i64 m)∧w.cell? ⟨g,j * 3+2,none⟩=some (.slice (some ⟨qf j,0,none⟩) 1 c) ∧
    w.cell? ⟨qf j,0,none⟩=some (.int .u8 ((m:Int) % 256))):=os
  clear bs ls os
  unfold sl at c0 c1 c2
  go_enter Tryz.func67,Tryz.ntmps67
  go_wp2
  go_loopw [3,4] (fun ok i wr=>∃ k:Nat,k≤bn∧i=.int .i64 k∧ok=.bool true∧Below w.heap.size w wr) (fun _ i _=>bn - (intOf i).toNat)
  case atStart=>exact ⟨0,Nat.zero_le _,rfl,rfl,Below.refl _ _⟩
  case round =>
    obtain ⟨k,hk,rfl,rfl,hb⟩:=hrel
    by_cases hlt:k < bn
    · obtain ⟨g,rfl,hg⟩:=hbs.out k hlt
      have d0:wr.cell? ⟨p,0,none⟩=_:=(hb.cell (World.block_lt_of_cell? w _ c0)).trans c0
      have d3:wr.cell? ⟨p,3,none⟩=_:=(hb.cell (World.block_lt_of_cell? w _ c3)).trans c3
      have dg:wr.cell? ⟨g,k,none⟩=_:=(hb.cell (World.block_lt_of_cell? w _ hg)).trans hg
      go_wp2
      go_quiet ((go_at_call 112;exact Calls.quiet_of_same (sign_any m k _ hm (by omega))))
      go_wp2
      go_roundw
      case rel=>exact ⟨k+1,by omega,by go_num,by simp,below_drewN hb _⟩
      case measure=>simp [intOf];omega
    · have d0:wr.cell? ⟨p,0,none⟩=_:=(hb.cell (World.block_lt_of_cell? w _ c0)).trans c0
      go_wp2
      go_loopw [3,5] (fun ok i wq=>∃ k2:Nat,k2≤ln∧i=.int .i64 k2∧ok=.bool true∧Below w.heap.size w wq) (fun _ i _=>ln - (intOf i).toNat)
      case atStart=>exact ⟨0,Nat.zero_le _,rfl,rfl,hb⟩
      case round =>
        clear hb
        obtain ⟨k2,hk2,rfl,rfl,hb⟩:=hrel
        by_cases hlt2:k2 < ln
        · obtain ⟨g,rfl,hg0,hg1,hg2⟩:=hls.out k2 hlt2
          have d1:wr.cell? ⟨p,1,none⟩=_:=(hb.cell (World.block_lt_of_cell? w _ c1)).trans c1
          have d3:wr.cell? ⟨p,3,none⟩=_:=(hb.cell (World.block_lt_of_cell? w _ c3)).trans c3
          have dg0:wr.cell? ⟨g,k2 * 3,none⟩=_:=(hb.cell (World.block_lt_of_cell? w _ hg0)).trans hg0
          have dg1:wr.cell? ⟨g,k2 * 3+1,none⟩=_:=(hb.cell (World.block_lt_of_cell? w _ hg1)).trans hg1
          have dg2:wr.cell? ⟨g,k2 * 3+2,none⟩=_:=(hb.cell (World.block_lt_of_cell? w _ hg2)).trans hg2
          go_wp2
          go_quiet (fail)
          go_wp2
          go_roundw
          case rel=>exact ⟨k2+1,by omega,by go_num,by simp,below_drewN hb _⟩
          case measure=>simp [intOf];omega
        · have d1:wr.cell? ⟨p,1,none⟩=_:=(hb.cell (World.block_lt_of_cell? w _ c1)).trans c1
          go_wp2
          go_loopw [3,6] (fun ok i wq=>∃ k3:Nat,k3≤on∧i=.int .i64 k3∧ok=.bool true∧Below w.heap.size w wq) (fun _ i _=>on - (intOf i).toNat)
          case atStart=>exact ⟨0,Nat.zero_le _,rfl,rfl,hb⟩
          case round =>
            clear hb
            obtain ⟨k3,hk3,rfl,rfl,hb⟩:=hrel
            by_cases hlt3:k3 < on
            · obtain ⟨g,c,rfl,hg0,hg1,hg2,hg3⟩:=hos.out k3 hlt3
              generalize qf k3=q at hg2 hg3
              have d2:wr.cell? ⟨p,2,none⟩=_:=(hb.cell (World.block_lt_of_cell? w _ c2)).trans c2
              have d3:wr.cell? ⟨p,3,none⟩=_:=(hb.cell (World.block_lt_of_cell? w _ c3)).trans c3
              have dg0:wr.cell? ⟨g,k3 * 3,none⟩=_:=(hb.cell (World.block_lt_of_cell? w _ hg0)).trans hg0
              have dg1:wr.cell? ⟨g,k3 * 3+1,none⟩=_:=(hb.cell (World.block_lt_of_cell? w _ hg1)).trans hg1
              have dg2:wr.cell? ⟨g,k3 * 3+2,none⟩=_:=(hb.cell (World.block_lt_of_cell? w _ hg2)).trans hg2
              have dq:wr.cell? ⟨q,0,none⟩=_:=(hb.cell (World.block_lt_of_cell? w _ hg3)).trans hg3
              have e3:p < wr.heap.size:=World.block_lt_of_cell? wr _ d3
              have eq:q < wr.heap.size:=World.block_lt_of_cell? wr _ dq
              have hconv:=fun (w':World) (q c:Nat) (x:Int) (h:w'.cell? ⟨q,0,none⟩=some (.int .u8 x))=>conv1 q c x w' h
              go_wp2
              go_region_held (fun w'=>w'.cell? ⟨p,3,none⟩=some (.int .i64 m)∧w'.cell? ⟨q,0,none⟩=some (.int .u8 ((m:Int) % 256))∧w'.cell? ⟨wr.heap.size,0,none⟩=some (.bool false)∧w'.cell? ⟨wr.heap.size,1,none⟩=some (.int .i64 m)∧w'.cell? ⟨wr.heap.size,2,none⟩=some (.slice (some ⟨q,0,none⟩) 1 c)) (go_keep) (fail)
              go_wp2
              go_roundw
              case rel=>exact ⟨k3+1,by omega,by go_num,by rw [IntKind.wrap_u8,beq_self_eq_true],((hb.alloc hb.size _).alloc (by simp;have:=hb.size;omega) _).drew⟩
              case measure=>simp [intOf];omega
            · have d2:wr.cell? ⟨p,2,none⟩=_:=(hb.cell (World.block_lt_of_cell? w _ c2)).trans c2
              go_wp2
              go_ret
              exact ⟨rfl,hb⟩
end
section
theorem fold_set (l:List Value):∀ (off j:Nat) (pre rest:List Value),pre.length=off+j→l.length≤rest.length →
    (l.zipIdx j).foldl (fun (cs:Array Value) p=>cs.setIfInBounds (off+p.2) p.1) (pre++rest).toArray=(pre++l++rest.drop l.length).toArray:=by
  induction l with
  | nil=>intro off j pre rest _ _;simp
  | cons a l ih =>
    intro off j pre rest h1 h2
    cases rest with
    | nil=>simp at h2
    | cons r rest =>
      rw [List.zipIdx_cons,List.foldl_cons]
      have e:(pre++r :: rest).toArray.setIfInBounds (off+j) a=((pre++[a])++rest).toArray:=by
        rw [List.setIfInBounds_toArray,← h1,List.set_append_right _ _ (Nat.le_refl _),Nat.sub_self,List.set_cons_zero,List.append_assoc];rfl
      show List.foldl _ ((pre++r :: rest).toArray.setIfInBounds (off+j) a) _=_
      rw [e,ih off (j+1) (pre++[a]) rest (by simp;omega) (by simpa using h2)]
      simp
theorem fill_rows (size:Nat) (cs:List (Array Value)):∀ (k:Nat) (pre rest:List Value),pre.length=k * size→rest.length=cs.length * size→(∀ c ∈ cs,c.size=size) →
    Instr.fill (fun i=>some (i * size,size)) (pre++rest).toArray ((cs.zipIdx k).map fun x=>(x.2,Value.agg x.1))=some (pre++cs.flatMap (·.toList)).toArray:=by
  induction cs with
  | nil=>intro k pre rest h1 h2 _;simp at h2;subst h2;simp [Instr.fill]
  | cons c cs ih =>
    intro k pre rest h1 h2 h3
    have hc:c.size=size:=h3 c (by simp)
    rw [List.length_cons,Nat.succ_mul] at h2
    rw [List.zipIdx_cons,List.map_cons]
    unfold Instr.fill
    have hv:(Value.agg c).cells=c:=rfl
    simp only [hv,hc]
    rw [if_neg (by simp;omega)]
    have e:c.zipIdx.foldl (fun (cs:Array Value) (x:Value × Nat)=>cs.setIfInBounds (k * size+x.2) x.1) (pre++rest).toArray=(pre++c.toList++rest.drop size).toArray:=by
      rw [← Array.foldl_toList,Array.toList_zipIdx,fold_set c.toList (k * size) 0 pre rest (by omega) (by simp;omega)]
      simp [hc]
    have:=ih (k+1) (pre++c.toList) (rest.drop size) (by simp [hc,h1,Nat.succ_mul]) (by simp;omega) (fun c' h'=>h3 c' (by simp [h']))
    rw [List.flatMap_cons,← List.append_assoc,← this,← e]
end
section
open Go.RowKit
attribute [local go_sem ↓] Go.wp_at_zero Go.wp_at_succ
theorem HoldIs.below {w w':World} {h:HG} (hh:HoldIs w h) (hb:Below w.heap.size w w'):HoldIs w' h:=by
  have hc:∀ {a:Addr} {v:Value},w.cell? a=some v→w'.cell? a=some v:=fun {a v} e=>(hb.cell (World.block_lt_of_cell? w _ e)).trans e
  refine ⟨hc hh.c0,hc hh.c1,hc hh.c2,hc hh.c3,fun j hj=>?_,fun j hj=>?_,fun j hj=>?_⟩
  · obtain ⟨g,e,a⟩:=hh.bs j hj;exact ⟨g,e,hc a⟩
  · obtain ⟨g,e,a,b,c⟩:=hh.ls j hj;exact ⟨g,e,hc a,hc b,hc c⟩
  · obtain ⟨g,cc,e,a,b,c,d⟩:=hh.os j hj;exact ⟨g,cc,e,hc a,hc b,hc c,hc d⟩
theorem looks_any (W n cap:Nat) (gh:Option Nat) (H:Nat→HG) (w:World) (hn:n≤100000000)
    (hc:w.cell? ⟨W,1,none⟩=some (sl gh n cap))
    (hp:∀ j,j < n→∃ g,gh=some g∧w.cell? ⟨g,j,none⟩=some (.pointer (some ⟨(H j).p,0,none⟩)))
    (hh:∀ j,j < n→HoldIs w (H j)) (hs:∀ j,j < n→(H j).m≤100000000∧(H j).bn≤100000000∧(H j).ln≤100000000∧(H j).on≤100000000) :
    Calls Tryz.prog 31 #[.pointer (some ⟨W,0,none⟩)] w fun e w'=>e=.returned (.bool true)∧Below w.heap.size w w':=by
  have hp':Hid (∀ j,j < n→∃ g,gh=some g∧w.cell? ⟨g,j,none⟩=some (.pointer (some ⟨(H j).p,0,none⟩))):=hp
  have hh':Hid (∀ j,j < n→HoldIs w (H j)):=hh
  have hs':Hid (∀ j,j < n→(H j).m≤100000000∧(H j).bn≤100000000∧(H j).ln≤100000000∧(H j).on≤100000000):=hs
  clear hp hh hs
  unfold sl at hc
  go_enter Tryz.func31,Tryz.ntmps31
  go_wp2
  go_loopw [3] (fun i wr=>∃ k:Nat,k≤n∧i=.int .i64 k∧Below w.heap.size w wr) (fun i _=>n - (intOf i).toNat)
  case atStart=>exact ⟨0,Nat.zero_le _,rfl,Below.refl _ _⟩
  case round =>
    obtain ⟨k,hk,rfl,hb⟩:=hrel
    have d:wr.cell? ⟨W,1,none⟩=_:=(hb.cell (World.block_lt_of_cell? w _ hc)).trans hc
    by_cases hlt:k < n
    · obtain ⟨g,rfl,hg⟩:=hp'.out k hlt
      have dg:wr.cell? ⟨g,k,none⟩=_:=(hb.cell (World.block_lt_of_cell? w _ hg)).trans hg
      obtain ⟨s1,s2,s3,s4⟩:=hs'.out k hlt
      have hk':Hid (HoldIs wr (H k)):=(hh'.out k hlt).below (by exact ⟨hb.os,hb.tape,hb.output,hb.size,hb.block⟩)
      go_wp2_with fail
      refine (marked_any (H k) _ hk'.out s1 s2 s3 s4).mono ?_
      rintro e w1 ⟨rfl,hb1⟩
      go_wp2
      go_roundw
      case rel=>exact ⟨k+1,by omega,by go_num,hb.trans (hb1.mono hb.size)⟩
      case measure=>simp [intOf];omega
    · go_wp2
      go_ret
      exact ⟨rfl,hb⟩
end
end Go.Proofs.YtolififimldmlaaGreat
