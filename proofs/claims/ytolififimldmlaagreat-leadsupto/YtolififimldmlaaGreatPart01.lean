import Derived.WalkKit
import Derived.RegionTactic
import Derived.Deep.RegionHeld
import Derived.Deep.RegionHeld3
import Derived.Deep.RegionHeldLaw
import Derived.Test.YtolififimldmlaaGreatRows
import Derived.WalkSpells
import Derived.WalkLawsBesides
import Derived.Deep.AppendLies
import Derived.Deep.LoopGhost
import Derived.Deep.Light
import Derived.Deep.DrawnRows
import Derived.BigQuiet
import Derived.Deep.QuietTactic
import Derived.Deep.DeepCutAuto
import Derived.Deep.DeepFit
import Derived.Laws.CopyOwn
set_option linter.unusedVariables false
set_option linter.unusedSimpArgs false
set_option maxRecDepth 100000
set_option maxHeartbeats 16000000
namespace Go.Proofs.YtolififimldmlaaGreat
section
theorem lA {α:Type _} {xs:List α} {i:Nat} (h:i < xs.toArray.size):xs.toArray[i]=xs[i]:=List.getElem_toArray h
theorem lB {α:Type _} (a:α) (as:List α) (h:0 < (a :: as).length):(a :: as)[0]=a:=rfl
theorem lC {α:Type _} (a:α) (as:List α) (i:Nat) (h:i+1 < (a :: as).length):(a :: as)[i+1]=as[i]'(Nat.lt_of_succ_lt_succ h):=rfl
theorem lD {α:Type _} (l:List α) (i:Nat) (a:α):l.toArray.setIfInBounds i a=(l.set i a).toArray:=List.setIfInBounds_toArray l i a
theorem lE {α:Type _} {x:α} {xs:List α} {a:α}:(x :: xs).set 0 a=a :: xs:=rfl
theorem lF {α:Type _} {x:α} {xs:List α} {i:Nat} {a:α}:(x :: xs).set (i+1) a=x :: xs.set i a:=rfl
variable {P:Program} {ops:Array Oper} {Q:Exit→Act→World→Prop} {md:Region.Mode} {S:World→Prop}
theorem tH {oi:Oper} {v:Value} {fuel:Nat} {listed:Array Bool} {a:Act} {w:World} (i:Nat) (hS:S w) (h:wpAnyH P md ops Q S fuel (listed.setIfInBounds i true) (a.put oi.dst v) w)
    (hi:ops[i]?=some oi:=by rfl) (hs:Region.noSelect ops=true:=by kernel_rfl) (hf:Region.free md ops listed i=true:=by kernel_rfl) (hr:(Region.ready md ops listed).contains i=true:=by kernel_rfl)
    (hQ:∀ c a w,Q (.panic c) (a.put oi.dst v) w→Q (.panic c) a w:=by exact fun _ _ _ h=>h) (hg:Region.wanted oi (yielded ops a.tmps)=true:=by rfl)
    (hy:∀ w,S w→(execOp a.eval oi).run P w=.ok (.value v) w:=by (intro w hw;clear hw;go_simp;try with_reducible rfl)):wpAnyH P md ops Q S (fuel+1) listed a w :=
  wpAnyH_take hi hs hf hr hQ (.inl ⟨hg,hy⟩) hS h
theorem tA {oi:Oper} {v:Value} {fuel:Nat} {listed:Array Bool} {a:Act} {w:World} (i:Nat) (h:wpAny P md ops Q fuel (listed.setIfInBounds i true) (a.put oi.dst v) w)
    (hi:ops[i]?=some oi:=by rfl) (hs:Region.noSelect ops=true:=by kernel_rfl) (hf:Region.free md ops listed i=true:=by kernel_rfl) (hr:(Region.ready md ops listed).contains i=true:=by kernel_rfl)
    (hQ:∀ c a w,Q (.panic c) (a.put oi.dst v) w→Q (.panic c) a w:=by exact fun _ _ _ h=>h) (hg:Region.wanted oi (yielded ops a.tmps)=true:=by rfl)
    (hy:∀ w,(execOp a.eval oi).run P w=.ok (.value v) w:=by (intro w;go_simp;try with_reducible rfl)):wpAny P md ops Q (fuel+1) listed a w :=
  wpAny_take hi hs hf hr hQ (.inl ⟨hg,hy⟩) h
theorem sH {oi:Oper} {fuel:Nat} {listed:Array Bool} {a:Act} {w:World} (i:Nat) (hS:S w) (h:wpAnyH P md ops Q S fuel (listed.setIfInBounds i true) (a.put oi.dst undef) w)
    (hi:ops[i]?=some oi:=by rfl) (hs:Region.noSelect ops=true:=by kernel_rfl) (hf:Region.free md ops listed i=true:=by kernel_rfl) (hr:(Region.ready md ops listed).contains i=true:=by kernel_rfl)
    (hQ:∀ c a w,Q (.panic c) (a.put oi.dst undef) w→Q (.panic c) a w:=by exact fun _ _ _ h=>h) (hg:Region.wanted oi (yielded ops a.tmps)=false:=by kernel_rfl):wpAnyH P md ops Q S (fuel+1) listed a w :=
  wpAnyH_take hi hs hf hr hQ (.inr ⟨hg,rfl⟩) hS h
theorem sA {oi:Oper} {fuel:Nat} {listed:Array Bool} {a:Act} {w:World} (i:Nat) (h:wpAny P md ops Q fuel (listed.setIfInBounds i true) (a.put oi.dst undef) w)
    (hi:ops[i]?=some oi:=by rfl) (hs:Region.noSelect ops=true:=by kernel_rfl) (hf:Region.free md ops listed i=true:=by kernel_rfl) (hr:(Region.ready md ops listed).contains i=true:=by kernel_rfl)
    (hQ:∀ c a w,Q (.panic c) (a.put oi.dst undef) w→Q (.panic c) a w:=by exact fun _ _ _ h=>h) (hg:Region.wanted oi (yielded ops a.tmps)=false:=by kernel_rfl):wpAny P md ops Q (fuel+1) listed a w :=
  wpAny_take hi hs hf hr hQ (.inr ⟨hg,rfl⟩) h
end
section
open Go.RowKit
def sg (m i:Nat):Nat:=(m+i * (1+m / 256)) % 256
theorem hid {p:Prop} (h:p):Hid p:=h
theorem ret_bool {a b:Bool} (h:a=b):Ending.returned (.bool a)=.returned (.bool b):=by rw [h]
theorem ret_int {k:IntKind} {a b:Int} (h:a=b):Ending.returned (.int k a)=.returned (.int k b):=by rw [h]
theorem sg_wrap (m i:Nat):wrap64 ((m:Int)+wrap64 ((i:Int) * (1+(m:Int) / 256))) % 256=(sg m i:Int):=by
  have e:((i:Int) * (1+(m:Int) / 256))=((i * (1+m / 256):Nat):Int):=by
    rw [Int.natCast_mul,Int.natCast_add,Int.natCast_ediv];rfl
  rw [e]
  unfold sg
  generalize i * (1+m / 256)=p
  unfold wrap64
  omega
theorem sign_any (m i:Nat) (w:World) (hm:m≤100000000) (hi:i≤100000000) :
    Calls Tryz.prog 112 #[.int .i64 m,.int .i64 i] w fun e w'=>e=.returned (.int .u8 (sg m i))∧w'=w:=by
  go_enter Tryz.func112,Tryz.ntmps112
  go_wp2
  go_ret
  exact ⟨ret_int (sg_wrap m i),rfl⟩
theorem conv1 (q c:Nat) (x:Int) (w:World) (h:w.cell? ⟨q,0,none⟩=some (.int .u8 x)) :
    (convert 31 9 (.slice (some ⟨q,0,none⟩) 1 c)).run Tryz.prog w=.ok (.string (strOfNums [x])) w :=
  run_convert_bytes_arg w 31 5 Tryz.underlying31 Tryz.underlying5 q 0 1 c [x] rfl (fun i hi=>by
    have:i=0:=by omega
    subst this;exact h) 9 Tryz.underlying9
end
section
structure Ln where
  c:Int
  t:Int
  s:List UInt8
def Ln.zero:Ln:=⟨0,0,[]⟩
def Ln.ok (l:Ln):Bool:=decide (1≤l.c) && decide (l.c≤9) && decide (1≤l.t) && decide (l.t≤99) && decide (l.s.length≤8)
def turnOf (ls:List Ln) (client:Int):Int:=ls.foldl (fun n l=>if l.c=client∧n < l.t then l.t else n) 0
def riseAt (ls:List Ln) (i:Nat):Bool:=(ls.getD i Ln.zero).ok && decide (turnOf (ls.take i) (ls.getD i Ln.zero).c < (ls.getD i Ln.zero).t)
def linesRise (ls:List Ln) (k:Nat):Bool:=(List.range k).all (riseAt ls)
def linesOk (ls:List Ln):Bool:=linesRise ls ls.length && decide (ls.length≤20)
theorem turnOf_snoc (ls:List Ln) (l:Ln) (c:Int):turnOf (ls++[l]) c=if l.c=c∧turnOf ls c < l.t then l.t else turnOf ls c:=by
  unfold turnOf;rw [List.foldl_append];rfl
theorem take_snoc {α:Type} (l:List α) (k:Nat) (h:k < l.length):l.take (k+1)=l.take k++[l[k]]:=List.take_succ_eq_append_getElem h
theorem getD_at {α:Type} (l:List α) (k:Nat) (d:α) (h:k < l.length):l.getD k d=l[k]:=by simp [List.getD,h]
theorem linesRise_succ (ls:List Ln) (k:Nat):linesRise ls (k+1)=(linesRise ls k && riseAt ls k):=by
  unfold linesRise;rw [List.range_succ,List.all_append];simp
theorem linesRise_le (ls:List Ln) {k n:Nat} (h:k≤n) (hn:linesRise ls n=true):linesRise ls k=true:=by
  unfold linesRise at *
  rw [List.all_eq_true] at *
  intro x hx
  exact hn x (by rw [List.mem_range] at *;omega)
theorem linesRise_false (ls:List Ln) {k:Nat} (hk:k < ls.length) (h:riseAt ls k=false):linesOk ls=false:=by
  unfold linesOk
  have:linesRise ls ls.length=false:=by
    rw [Bool.eq_false_iff];intro e
    have:=linesRise_le ls (show k+1≤ls.length by omega) e
    rw [linesRise_succ,h] at this
    simp at this
  rw [this];rfl
def fieldStr (k:Int):List UInt8 :=
  if k=1 then [49] else if k=2 then [102,118,112,97,49] else if k=3 then [102,118,112] else if k=4 then [102,118,97] else if k=5 then [102,118]
  else if k=6 then [102,118,97,108,110] else if k=7 then [102,118,97,110] else if k=8 then [102,118] else if k=9 then [118,112,49] else []
def memB (l:List UInt8) (c:UInt8):Bool:=l.contains c
theorem memB_hit (l:List UInt8) (c:UInt8) (k:Nat) (hk:k < l.length) (h:(l[k].toNat:Int)=c.toNat):memB l c=true:=by
  unfold memB
  have:l[k]=c:=UInt8.toNat_inj.1 (by omega)
  rw [List.contains_iff_mem,← this];exact List.getElem_mem hk
theorem memB_miss (l:List UInt8) (c:UInt8) (k:Nat) (hk:k < l.length) (h:(l[k].toNat:Int)≠c.toNat) (h0:memB (l.take k) c=false):memB (l.take (k+1)) c=false:=by
  unfold memB at *
  rw [take_snoc l k hk,List.contains_append,h0]
  have:l[k]≠c:=fun e=>h (by rw [e])
  simp [Ne.symm this]
def hasB (k:Int) (c:UInt8):Bool:=memB (fieldStr k) c
def fitsB (is:Bool) (n least most:Int):Bool:=if is then decide (least≤n) && decide (n≤most) else n == 0
def byteOf (n:Int):UInt8:=UInt8.ofNat (n % 256).toNat
def lineBytes (l:Ln):List UInt8:=[byteOf l.c,byteOf l.t,byteOf l.s.length]++l.s
def manyBytes (ls:List Ln):List UInt8:=ls.flatMap lineBytes
def linesBytes (ls:List Ln):List UInt8:=byteOf ls.length :: manyBytes ls
def chk (l:List UInt8):Nat:=l.foldl (fun s b=>(s * 31+b.toNat) % 65536) 7
def withChk (l:List UInt8):List UInt8:=l++[UInt8.ofNat (chk l % 256),UInt8.ofNat (chk l / 256)]
theorem manyBytes_snoc (ls:List Ln) (l:Ln):manyBytes (ls++[l])=manyBytes ls++lineBytes l:=by simp [manyBytes]
theorem chk_snoc (l:List UInt8) (b:UInt8):chk (l++[b])=(chk l * 31+b.toNat) % 65536:=by unfold chk;rw [List.foldl_append];rfl
theorem chk_lt (l:List UInt8):chk l < 65536:=by
  unfold chk
  have:∀ (l:List UInt8) (n:Nat),n < 65536→l.foldl (fun s b=>(s * 31+b.toNat) % 65536) n < 65536:=by
    intro l
    induction l with
    | nil=>intro n h;exact h
    | cons a l ih=>intro n h;rw [List.foldl_cons];exact ih _ (Nat.mod_lt _ (by omega))
  exact this l 7 (by omega)
structure Fr where
  kind:Int
  frm:Int
  view:Int
  place:Int
  agreed:Int
  last:Int
  line:Ln
  lines:List Ln
def Ln.isZero (l:Ln):Bool:=(l.c == 0) && (l.t == 0) && l.s.isEmpty
def Fr.ok (f:Fr):Bool :=
  decide (1≤f.kind) && decide (f.kind≤9) && fitsB (hasB f.kind 102) f.frm 0 4 && fitsB (hasB f.kind 118) f.view 0 100 && fitsB (hasB f.kind 112) f.place (if hasB f.kind 49 then 1 else 0) 20 &&
  fitsB (hasB f.kind 97) f.agreed 0 20 && fitsB (hasB f.kind 108) f.last 0 100 &&
  (if hasB f.kind 49 then f.line.ok else f.line.isZero) && !(f.kind == 9 && !f.line.s.isEmpty) && (if hasB f.kind 110 then linesOk f.lines else f.lines.isEmpty)
theorem linesOk_all {ls:List Ln} (h:linesOk ls=true):ls.length≤20∧∀ l ∈ ls,l.ok=true:=by
  unfold linesOk at h
  simp only [Bool.and_eq_true,decide_eq_true_eq] at h
  refine ⟨h.2,fun l hl=>?_⟩
  obtain ⟨i,hi,e⟩:=List.getElem_of_mem hl
  have h1:=h.1
  unfold linesRise at h1
  rw [List.all_eq_true] at h1
  have:=h1 i (by simpa using hi)
  unfold riseAt at this
  rw [getD_at ls i _ hi,e] at this
  simp only [Bool.and_eq_true] at this
  exact this.1
theorem Ln.ok_len {l:Ln} (h:l.ok=true):l.s.length≤8:=by
  unfold Ln.ok at h
  simp only [Bool.and_eq_true,decide_eq_true_eq] at h
  exact h.2
theorem Fr.ok_parts {f:Fr} (h:f.ok=true):1≤f.kind∧f.kind≤9∧(hasB f.kind 49=true→f.line.ok=true)∧(hasB f.kind 49=false→f.line.isZero=true)∧(hasB f.kind 110=true→linesOk f.lines=true)∧(hasB f.kind 110=false→f.lines=[]):=by
  unfold Fr.ok at h
  simp only [Bool.and_eq_true,decide_eq_true_eq] at h
  obtain ⟨⟨⟨⟨⟨⟨⟨⟨⟨h1,h2⟩,_⟩,_⟩,_⟩,_⟩,_⟩,h3⟩,_⟩,h4⟩:=h
  refine ⟨h1,h2,fun e=>by rw [e] at h3;simpa using h3,fun e=>by rw [e] at h3;simpa using h3,fun e=>by rw [e] at h4;simpa using h4,fun e=>by rw [e] at h4;simpa using h4⟩
theorem manyBytes_len (ls:List Ln) (h:∀ l ∈ ls,l.ok=true):(manyBytes ls).length≤11 * ls.length:=by
  induction ls with
  | nil=>simp [manyBytes]
  | cons a l ih =>
    have h1:=ih (fun x hx=>h x (List.mem_cons_of_mem _ hx))
    have h2:=Ln.ok_len (h a (List.mem_cons_self ..))
    unfold manyBytes at *
    rw [List.flatMap_cons,List.length_append,List.length_cons]
    have:(lineBytes a).length=a.s.length+3:=by simp [lineBytes]
    omega
def Fr.head (f:Fr):List UInt8:=[byteOf f.kind,byteOf f.frm,byteOf f.view,byteOf f.place,byteOf f.agreed,byteOf f.last]
def Fr.body (f:Fr):List UInt8:=f.head++(if hasB f.kind 49 then lineBytes f.line else [])++(if hasB f.kind 110 then linesBytes f.lines else [])
def Fr.bytes (f:Fr):List UInt8:=withChk f.body
theorem Fr.body_len {f:Fr} (h:f.ok=true):f.body.length≤300:=by
  obtain ⟨_,_,h1,_,h2,_⟩:=Fr.ok_parts h
  unfold Fr.body
  rw [List.length_append,List.length_append]
  have e0:f.head.length=6:=rfl
  have e1:(if hasB f.kind 49 then lineBytes f.line else []).length≤11:=by
    split
    · rename_i e
      have:=Ln.ok_len (h1 e)
      have:(lineBytes f.line).length=f.line.s.length+3:=by simp [lineBytes]
      omega
    · simp
  have e2:(if hasB f.kind 110 then linesBytes f.lines else []).length≤221:=by
    split
    · rename_i e
      obtain ⟨a,b⟩:=linesOk_all (h2 e)
      have:=manyBytes_len f.lines b
      unfold linesBytes
      rw [List.length_cons];omega
    · simp
  omega
def packS (f:Fr):List UInt8:=if f.ok then f.bytes else []
def packE (f:Fr):Int:=if f.ok then 0 else 3
def takeLine (b:List UInt8):Option (Ln × List UInt8) :=
  if b.length < 3 then none else if b.length < 3+(b.getD 2 0).toNat then none
  else some (⟨(b.getD 0 0).toNat,(b.getD 1 0).toNat,(b.drop 3).take (b.getD 2 0).toNat⟩,b.drop (3+(b.getD 2 0).toNat))
def tlLine (b:List UInt8):Ln:=((takeLine b).map (·.1)).getD Ln.zero
def tlRest (b:List UInt8):List UInt8:=((takeLine b).map (·.2)).getD []
def tlOk (b:List UInt8):Bool:=(takeLine b).isSome
end
section
open Go.RowKit
attribute [local go_sem ↓] Go.wp_at_zero Go.wp_at_succ
def Ln.cells (l:Ln):List Value:=[.int .i64 l.c,.int .i64 l.t,.string ⟨l.s.toArray⟩]
def sla (a:Option Addr) (n c:Nat):Value:=.slice a n c
def LinesAt (w:World) (a:Option Addr) (ls:List Ln):Prop :=
  ∀ j (h:j < ls.length),∃ g o,a=some ⟨g,o,none⟩∧w.cell? ⟨g,o+j * 3,none⟩=some (.int .i64 ls[j].c)∧w.cell? ⟨g,o+j * 3+1,none⟩=some (.int .i64 ls[j].t)∧w.cell? ⟨g,o+j * 3+2,none⟩=some (.string ⟨ls[j].s.toArray⟩)
theorem LinesAt.below {w w':World} {a:Option Addr} {ls:List Ln} (h:LinesAt w a ls) (hb:Below w.heap.size w w'):LinesAt w' a ls:=fun j hj=>by
  obtain ⟨g,o,e,h0,h1,h2⟩:=h j hj
  exact ⟨g,o,e,(hb.cell (World.block_lt_of_cell? _ _ h0)).trans h0,(hb.cell (World.block_lt_of_cell? _ _ h1)).trans h1,(hb.cell (World.block_lt_of_cell? _ _ h2)).trans h2⟩
theorem isLine_any (l:Ln) (w:World):Calls Tryz.prog 143 #[.agg #[.int .i64 l.c,.int .i64 l.t,.string ⟨l.s.toArray⟩]] w fun e w'=>e=.returned (.bool l.ok)∧Below w.heap.size w w':=by
  obtain ⟨c,t,s⟩:=l
  dsimp only
  go_enter Tryz.func143,Tryz.ntmps143
  go_wp2
  all_goals (go_ret;refine ⟨ret_bool ?_,(Below.refl _ _).alloc (Nat.le_refl _) _⟩;rw [Bool.eq_iff_iff];simp [Ln.ok];omega)
theorem turn_any (a:Option Addr) (cap:Nat) (ls:List Ln) (c:Int) (w:World) (hl:LinesAt w a ls) (hn:ls.length≤100000000) :
    Calls Tryz.prog 149 #[sla a ls.length cap,.int .i64 c] w fun e w'=>e=.returned (.int .i64 (turnOf ls c))∧w'=w:=by
  have HL:=hid hl
  clear hl
  unfold sla
  go_enter Tryz.func149,Tryz.ntmps149
  go_wp2
  go_loop [5,6] (fun n i=>∃ k:Nat,k≤ls.length∧i=.int .i64 k∧n=.int .i64 (turnOf (ls.take k) c)) (fun _ i=>ls.length - (intOf i).toNat)
  case atStart=>exact ⟨0,Nat.zero_le _,rfl,rfl⟩
  case round =>
    obtain ⟨k,hk,rfl,rfl⟩:=hrel
    by_cases hlt:k < ls.length
    · obtain ⟨g,o,rfl,h0,h1,h2⟩:=HL.out k hlt
      have HS:Hid (turnOf (ls.take (k+1)) c=if ls[k].c=c∧turnOf (ls.take k) c < ls[k].t then ls[k].t else turnOf (ls.take k) c):=by
        rw [take_snoc ls k hlt];exact turnOf_snoc _ _ _
      generalize turnOf (ls.take k) c=T at HS ⊢
      generalize ls[k]=x at HS h0 h1 h2
      go_wp2
      all_goals
        go_round
        case rel=>exact ⟨k+1,by omega,by go_num,by rw [HS.out];simp_all <;> omega⟩
        case measure=>simp [intOf];omega
    · go_wp2
      go_ret
      exact ⟨ret_int (by rw [List.take_of_length_le (by omega)]),rfl⟩
theorem has_any (l:List UInt8) (c:UInt8) (w:World) (hn:l.length≤100000000) :
    Calls Tryz.prog 93 #[.string ⟨l.toArray⟩,.int .u8 c.toNat] w fun e w'=>e=.returned (.bool (memB l c))∧w'=w:=by
  go_enter Tryz.func93,Tryz.ntmps93
  go_wp2
  go_loop [5] (fun i=>∃ k:Nat,k≤l.length∧i=.int .i64 k∧memB (l.take k) c=false) (fun i=>l.length - (intOf i).toNat)
  case atStart=>exact ⟨0,Nat.zero_le _,rfl,rfl⟩
  case round =>
    obtain ⟨k,hk,rfl,hno⟩:=hrel
    have HN:=hid hno
    clear hno
    by_cases hlt:k < l.length
    · go_wp2
      · have h:((l[k].toNat:Int) == (c.toNat:Int))=true:=by assumption
        go_ret
        exact ⟨ret_bool (memB_hit l c k hlt (by simpa using h)).symm,rfl⟩
      · have h:((l[k].toNat:Int) == (c.toNat:Int))=false:=by assumption
        go_round
        case rel=>exact ⟨k+1,by omega,by go_num,memB_miss l c k hlt (by simpa using h) HN.out⟩
        case measure=>simp [intOf];omega
    · go_wp2
      go_ret
      exact ⟨ret_bool (by have h:=HN.out;rw [List.take_of_length_le (by omega)] at h;exact h.symm),rfl⟩
theorem fields_any (k:Int) (w:World) (h1:1≤k) (h9:k≤9):Calls Tryz.prog 92 #[.int .i64 k] w fun e w'=>e=.returned (.string ⟨(fieldStr k).toArray⟩)∧Below w.heap.size w w':=by
  have:k=1∨k=2∨k=3∨k=4∨k=5∨k=6∨k=7∨k=8∨k=9:=by omega
  clear h1 h9
  rcases this with rfl | rfl | rfl | rfl | rfl | rfl | rfl | rfl | rfl
  all_goals
    go_enter Tryz.func92,Tryz.ntmps92
    go_wp2
    go_ret
    exact ⟨rfl,(Below.refl _ _).alloc (Nat.le_refl _) _⟩
theorem fits_any (is:Bool) (n least most:Int) (w:World):Calls Tryz.prog 142 #[.bool is,.int .i64 n,.int .i64 least,.int .i64 most] w fun e w'=>e=.returned (.bool (fitsB is n least most))∧w'=w:=by
  cases is
  all_goals
    go_enter Tryz.func142,Tryz.ntmps142
    go_wp2
  all_goals (go_ret;refine ⟨ret_bool ?_,rfl⟩;rw [Bool.eq_iff_iff];simp [fitsB];try omega)
theorem bcell {W w1:World} (hb:Below W.heap.size W w1):(∀ b o,b < W.heap.size→w1.cell? ⟨b,o,none⟩=W.cell? ⟨b,o,none⟩)∧(∀ b o,b < W.heap.size→w1.frozen? ⟨b,o,none⟩=W.frozen? ⟨b,o,none⟩) :=
  ⟨fun b o h=>hb.cell (p:=⟨b,o,none⟩) h,fun b o h=>hb.frozen (p:=⟨b,o,none⟩) h⟩
theorem LinesAt.take {w:World} {a:Option Addr} {ls:List Ln} (h:LinesAt w a ls) (k:Nat):LinesAt w a (ls.take k):=fun j hj=>by
  have hj':j < ls.length:=by simp at hj;omega
  obtain ⟨g,o,e,h0,h1,h2⟩:=h j hj'
  exact ⟨g,o,e,by simpa using h0,by simpa using h1,by simpa using h2⟩
theorem LinesAt.mono {w w':World} {B:Nat} {a:Option Addr} {ls:List Ln} (h:LinesAt w a ls) (hb:Below B w w') (hB:w.heap.size≤B):LinesAt w' a ls:=fun j hj=>by
  obtain ⟨g,o,e,h0,h1,h2⟩:=h j hj
  have q0:=World.block_lt_of_cell? _ _ h0
  dsimp only at q0
  exact ⟨g,o,e,(hb.cell (p:=⟨g,o+j * 3,none⟩) (by dsimp only;omega)).trans h0,(hb.cell (p:=⟨g,o+j * 3+1,none⟩) (by dsimp only;omega)).trans h1,(hb.cell (p:=⟨g,o+j * 3+2,none⟩) (by dsimp only;omega)).trans h2⟩
theorem turn_at (g o n cap:Nat) (ls:List Ln) (c:Int) (w:World) (hl:LinesAt w (some ⟨g,o,none⟩) ls) (hn:ls.length≤100000000) (e:ls.length=n) :
    Calls Tryz.prog 149 #[.slice (some ⟨g,o,none⟩) n cap,.int .i64 c] w fun e w'=>e=.returned (.int .i64 (turnOf ls c))∧w'=w:=by
  subst e;exact turn_any (some ⟨g,o,none⟩) cap ls c w hl hn
theorem areLines_any (a:Option Addr) (cap:Nat) (ls:List Ln) (w:World) (hl:LinesAt w a ls) (hn:ls.length≤100000000) (hcap:ls.length≤cap) :
    Calls Tryz.prog 144 #[sla a ls.length cap] w fun e w'=>e=.returned (.bool (linesOk ls))∧Below w.heap.size w w':=by
  have HL:=hid hl
  clear hl
  unfold sla
  go_enter Tryz.func144,Tryz.ntmps144
  go_wp2
  go_loopw [3] (fun i wr=>∃ k:Nat,k≤ls.length∧i=.int .i64 k∧linesRise ls k=true∧Below w.heap.size w wr) (fun i _=>ls.length - (intOf i).toNat)
  case atStart=>exact ⟨0,Nat.zero_le _,rfl,rfl,Below.refl _ _⟩
  case round =>
    obtain ⟨k,hk,rfl,hri,hb⟩:=hrel
    have HR:=hid hri
    have HB:=hid hb
    clear hri hb
    by_cases hlt:k < ls.length
    · have HLr:=hid (HL.out.below HB.out)
      obtain ⟨g,o,rfl,h0,h1,h2⟩:=HLr.out k hlt
      have HS:=hid (linesRise_succ ls k)
      have HF:=hid (fun e=>linesRise_false ls hlt e)
      have HX:Hid (riseAt ls k=(ls[k].ok && decide (turnOf (ls.take k) ls[k].c < ls[k].t))):=by unfold riseAt;rw [getD_at ls k _ hlt];rfl
      have HT:Hid ((ls.take k).length=k):=by show (ls.take k).length=k;simp;omega
      generalize hx:ls[k]=x at HX h0 h1 h2
      go_wp2_with fail
      refine (isLine_any x _).mono ?_
      rintro e w1 ⟨rfl,hb1⟩
      have HB1:=hid hb1
      have g0:w1.cell? ⟨g,o+k * 3,none⟩=_:=(hb1.cell (World.block_lt_of_cell? _ _ h0)).trans h0
      have g1:w1.cell? ⟨g,o+k * 3+1,none⟩=_:=(hb1.cell (World.block_lt_of_cell? _ _ h1)).trans h1
      clear hb1 h0 h1 h2 hx
      have HLt:=hid ((HLr.out.below HB1.out).take k)
      have hik:(0:Int)≤(k:Int):=by omega
      have hik2:(k:Int)≤(cap:Int):=by omega
      have hik3:(k:Int) < (ls.length:Int):=by omega
      go_wp2_with fail
      go_quiet ((go_at_call 149;exact Calls.quiet_of_same (turn_at g o k cap (ls.take k) x.c _ HLt.out (by have:=HT.out;omega) HT.out)))
      generalize turnOf (ls.take k) x.c=T at HX ⊢
      cases hok:x.ok
      · go_wp2
        go_ret
        exact ⟨ret_bool (HF.out (by rw [HX.out,hok];rfl)).symm,below_drewN (HB.out.trans (HB1.out.mono HB.out.size)) _⟩
      · by_cases hT:T < x.t
        · go_wp2
          go_roundw
          case rel =>
            exact ⟨k+1,by omega,by go_num,by rw [HS.out,HR.out,HX.out,hok];simp [hT],below_drewN (HB.out.trans (HB1.out.mono HB.out.size)) _⟩
          case measure=>simp [intOf];omega
        · have hT':x.t≤T:=by omega
          go_wp2
          go_ret
          exact ⟨ret_bool (HF.out (by rw [HX.out,hok];simp;omega)).symm,below_drewN (HB.out.trans (HB1.out.mono HB.out.size)) _⟩
    · go_wp2
      go_ret
      have e:k=ls.length:=by omega
      subst e
      refine ⟨ret_bool ?_,HB.out⟩
      unfold linesOk
      rw [HR.out,Bool.eq_iff_iff];simp;omega
theorem fieldStr_len (k:Int):(fieldStr k).length≤100000000:=by
  unfold fieldStr
  repeat' split
  all_goals simp
theorem has_k (k:Int) (c:UInt8) (n:Int) (hn:n=c.toNat) (w:World) :
    Calls Tryz.prog 93 #[.string ⟨(fieldStr k).toArray⟩,.int .u8 n] w fun e w'=>e=.returned (.bool (hasB k c))∧w'=w:=by
  subst hn;exact has_any _ _ _ (fieldStr_len k)
theorem len_isEmpty {α:Type} (ls:List α):((ls.length:Int) == 0)=ls.isEmpty:=by
  cases ls with
  | nil=>rfl
  | cons a l=>simp;omega
def Fr.val (f:Fr) (a:Option Addr) (cap:Nat):Value :=
  .agg #[.int .i64 f.kind,.int .i64 f.frm,.int .i64 f.view,.int .i64 f.place,.int .i64 f.agreed,.int .i64 f.last,.int .i64 f.line.c,.int .i64 f.line.t,.string ⟨f.line.s.toArray⟩,sla a f.lines.length cap]
theorem isFrame_any (f:Fr) (a:Option Addr) (cap:Nat) (w:World) (hl:LinesAt w a f.lines) (hn:f.lines.length≤100000000) (hcap:f.lines.length≤cap) :
    Calls Tryz.prog 91 #[f.val a cap] w fun e w'=>e=.returned (.bool f.ok)∧Below w.heap.size w w':=by
  obtain ⟨kind,frm,view,place,agreed,last,⟨c,t,s⟩,ls⟩:=f
  have HL:=hid hl
  dsimp only at HL hn hcap
  clear hl
  unfold Fr.val sla
  dsimp only
  rcases Int.lt_or_le kind 1 with h1 | h1
  · have HF:Hid (Fr.ok ⟨kind,frm,view,place,agreed,last,⟨c,t,s⟩,ls⟩=false):=by
      show Fr.ok _=_
      unfold Fr.ok
      rw [show decide (1≤kind)=false from by simp;omega];simp
    go_enter Tryz.func91,Tryz.ntmps91
    go_wp2
    go_ret
    exact ⟨ret_bool HF.out.symm,(Below.refl _ _).alloc (Nat.le_refl _) _⟩
  rcases Int.lt_or_le 9 kind with h9 | h9
  · have HF:Hid (Fr.ok ⟨kind,frm,view,place,agreed,last,⟨c,t,s⟩,ls⟩=false):=by
      show Fr.ok _=_
      unfold Fr.ok
      rw [show decide (kind≤9)=false from by simp;omega];simp
    go_enter Tryz.func91,Tryz.ntmps91
    go_wp2
    go_ret
    exact ⟨ret_bool HF.out.symm,(Below.refl _ _).alloc (Nat.le_refl _) _⟩
  have HOK:Hid (Fr.ok ⟨kind,frm,view,place,agreed,last,⟨c,t,s⟩,ls⟩=(fitsB (hasB kind 102) frm 0 4 && fitsB (hasB kind 118) view 0 100 && fitsB (hasB kind 112) place (if hasB kind 49 then 1 else 0) 20 &&
      fitsB (hasB kind 97) agreed 0 20 && fitsB (hasB kind 108) last 0 100 &&
      (if hasB kind 49 then (Ln.mk c t s).ok else (Ln.mk c t s).isZero) && !(kind == 9 && !s.isEmpty) && (if hasB kind 110 then linesOk ls else ls.isEmpty))):=by
    show Fr.ok _=_
    unfold Fr.ok
    simp only [h1,h9,decide_true,Bool.true_and]
  go_enter Tryz.func91,Tryz.ntmps91
  go_wp2_with fail
  refine (fields_any kind _ h1 h9).mono ?_
  rintro e w1 ⟨rfl,hb1⟩
  have HB1:=hid hb1
  obtain ⟨q1,q2⟩:=bcell hb1
  have hz1:w.heap.size < w1.heap.size:=by have:=hb1.size;simp at this;omega
  have HW1:Hid (Below w.heap.size w w1):=((Below.refl _ w).alloc (Nat.le_refl _) _).trans (hb1.mono (by simp))
  clear hb1 q2
  go_wp2_with fail
  refine (has_k kind 49 _ rfl _).mono ?_
  rintro e _ ⟨rfl,rfl⟩
  go_wp2_with fail
  refine (has_k kind 110 _ rfl _).mono ?_
  rintro e _ ⟨rfl,rfl⟩
  generalize hasB kind 49=one at HOK ⊢
  generalize hasB kind 110=all at HOK ⊢
  have more:∀ (least:Int),Hid (least=if one then 1 else 0)→True:=fun _ _=>trivial
  clear more
  cases one
  all_goals
    go_wp2_with fail
    refine (has_k kind 102 _ rfl _).mono ?_
    rintro e _ ⟨rfl,rfl⟩
    go_wp2_with fail
    refine (has_k kind 118 _ rfl _).mono ?_
    rintro e _ ⟨rfl,rfl⟩
    go_wp2_with fail
    refine (has_k kind 112 _ rfl _).mono ?_
    rintro e _ ⟨rfl,rfl⟩
    go_wp2_with fail
    refine (has_k kind 97 _ rfl _).mono ?_
    rintro e _ ⟨rfl,rfl⟩
    go_wp2_with fail
    refine (has_k kind 108 _ rfl _).mono ?_
    rintro e _ ⟨rfl,rfl⟩
    go_wp2_with fail
    refine (fits_any (hasB kind 102) frm 0 4 _).mono ?_
    rintro e _ ⟨rfl,rfl⟩
    go_wp2_with fail
    refine (fits_any (hasB kind 118) view 0 100 _).mono ?_
    rintro e _ ⟨rfl,rfl⟩
    go_wp2_with fail
    refine (fits_any (hasB kind 112) place _ 20 _).mono ?_
    rintro e _ ⟨rfl,rfl⟩
    go_wp2_with fail
    refine (fits_any (hasB kind 97) agreed 0 20 _).mono ?_
    rintro e _ ⟨rfl,rfl⟩
    go_wp2_with fail
    refine (fits_any (hasB kind 108) last 0 100 _).mono ?_
    rintro e _ ⟨rfl,rfl⟩
    simp only [if_true,Bool.false_eq_true,if_false] at HOK
    generalize fitsB (hasB kind 102) frm 0 4=b1 at HOK ⊢
    generalize fitsB (hasB kind 118) view 0 100=b2 at HOK ⊢
    generalize fitsB (hasB kind 112) place _ 20=b3 at HOK ⊢
    generalize fitsB (hasB kind 97) agreed 0 20=b4 at HOK ⊢
    generalize fitsB (hasB kind 108) last 0 100=b5 at HOK ⊢
    go_wp2_with (go_at_call 143;refine (isLine_any ⟨c,t,s⟩ _).mono ?_;rintro e w2 ⟨rfl,hb2⟩;obtain ⟨r1,r2⟩:=bcell hb2;have HB2:=hid hb2;clear hb2 r2)
    all_goals (try (go_ret;refine ⟨ret_bool ?_,?_⟩))
  all_goals (try first | exact HW1.out | exact HW1.out.trans (HB2.out.mono HW1.out.size))
  all_goals (try (rw [HOK.out];simp_all [Ln.isZero];done))
  all_goals
    have HB12:=hid (HW1.out.trans (HB2.out.mono HW1.out.size))
    have hz2:w.heap.size < w2.heap.size:=by have:=HB2.out.size;omega
    refine (areLines_any a cap ls _ (HL.out.below HB12.out) hn hcap).mono ?_
    rintro e w3 ⟨rfl,hb3⟩
    obtain ⟨p1,p2⟩:=bcell hb3
    have HB3:=hid (HB12.out.trans (hb3.mono HB12.out.size))
    clear hb3 p2
    have HLE:Hid (((ls.length:Int) == 0)=ls.isEmpty):=len_isEmpty ls
    cases all
    all_goals
      go_wp2
    all_goals
      go_ret
      refine ⟨ret_bool ?_,HB3.out⟩
      rw [HOK.out]
      have:=HLE.out
      simp_all [Ln.isZero]
theorem convN (q n c:Nat) (xs:List Int) (w:World) (hn:xs.length=n) (h:∀ i,i < n→w.cell? ⟨q,i,none⟩=some (.int .u8 (xs.getD i 0))) :
    (convert 31 9 (.slice (some ⟨q,0,none⟩) n c)).run Tryz.prog w=.ok (.string ⟨(xs.map fun n=>UInt8.ofNat n.toNat).toArray⟩) w :=
  run_convert_bytes_arg w 31 5 Tryz.underlying31 Tryz.underlying5 q 0 n c xs hn (fun i hi=>by rw [Nat.zero_add];exact h i hi) 9 Tryz.underlying9
theorem conv3 (q c:Nat) (x0 x1 x2:Int) (w:World) (h0:w.cell? ⟨q,0,none⟩=some (.int .u8 x0)) (h1:w.cell? ⟨q,1,none⟩=some (.int .u8 x1)) (h2:w.cell? ⟨q,2,none⟩=some (.int .u8 x2)) :
    (convert 31 9 (.slice (some ⟨q,0,none⟩) 3 c)).run Tryz.prog w=.ok (.string ⟨[UInt8.ofNat x0.toNat,UInt8.ofNat x1.toNat,UInt8.ofNat x2.toNat].toArray⟩) w :=
  convN q 3 c [x0,x1,x2] w rfl (fun i hi=>by
    match i,hi with
    | 0,_=>exact h0
    | 1,_=>exact h1
    | 2,_=>exact h2)
theorem conv1' (q c:Nat) (x0:Int) (w:World) (h0:w.cell? ⟨q,0,none⟩=some (.int .u8 x0)) :
    (convert 31 9 (.slice (some ⟨q,0,none⟩) 1 c)).run Tryz.prog w=.ok (.string ⟨[UInt8.ofNat x0.toNat].toArray⟩) w :=
  convN q 1 c [x0] w rfl (fun i hi=>by
    match i,hi with
    | 0,_=>exact h0)
theorem conv2 (q c:Nat) (x0 x1:Int) (w:World) (h0:w.cell? ⟨q,0,none⟩=some (.int .u8 x0)) (h1:w.cell? ⟨q,1,none⟩=some (.int .u8 x1)) :
    (convert 31 9 (.slice (some ⟨q,0,none⟩) 2 c)).run Tryz.prog w=.ok (.string ⟨[UInt8.ofNat x0.toNat,UInt8.ofNat x1.toNat].toArray⟩) w :=
  convN q 2 c [x0,x1] w rfl (fun i hi=>by
    match i,hi with
    | 0,_=>exact h0
    | 1,_=>exact h1)
theorem conv6 (q c:Nat) (x0 x1 x2 x3 x4 x5:Int) (w:World) (h0:w.cell? ⟨q,0,none⟩=some (.int .u8 x0)) (h1:w.cell? ⟨q,1,none⟩=some (.int .u8 x1)) (h2:w.cell? ⟨q,2,none⟩=some (.int .u8 x2))
    (h3:w.cell? ⟨q,3,none⟩=some (.int .u8 x3)) (h4:w.cell? ⟨q,4,none⟩=some (.int .u8 x4)) (h5:w.cell? ⟨q,5,none⟩=some (.int .u8 x5)) :
    (convert 31 9 (.slice (some ⟨q,0,none⟩) 6 c)).run Tryz.prog w=.ok (.string ⟨[UInt8.ofNat x0.toNat,UInt8.ofNat x1.toNat,UInt8.ofNat x2.toNat,UInt8.ofNat x3.toNat,UInt8.ofNat x4.toNat,UInt8.ofNat x5.toNat].toArray⟩) w :=
  convN q 6 c [x0,x1,x2,x3,x4,x5] w rfl (fun i hi=>by
    match i,hi with
    | 0,_=>exact h0
    | 1,_=>exact h1
    | 2,_=>exact h2
    | 3,_=>exact h3
    | 4,_=>exact h4
    | 5,_=>exact h5)
theorem byteOf_nat (n:Nat):byteOf (n:Int)=UInt8.ofNat (n % 256):=by
  unfold byteOf
  congr 1
theorem chkStep (c x:Nat) (hc:c < 65536) (hx:x < 256):(wrap64 ((c:Int) * 31+wrap64 (x:Int))).tmod 65536=(((c * 31+x) % 65536:Nat):Int):=by
  have e1:wrap64 (x:Int)=x:=by unfold wrap64;omega
  have e2:wrap64 ((c:Int) * 31+(x:Int))=((c * 31+x:Nat):Int):=by unfold wrap64;omega
  rw [e1,e2,Int.tmod_eq_emod_of_nonneg (by omega)];omega
theorem lineBytes_len (l:Ln):(lineBytes l).length=l.s.length+3:=by simp [lineBytes]
theorem str_val {a b:ByteArray} (h:a.data.toList=b.data.toList):Value.string a=Value.string b:=by
  have:a=b:=ByteArray.ext (Array.toList_inj.1 h)
  rw [this]
theorem ret_str {a b:ByteArray} (h:a.data.toList=b.data.toList):Ending.returned (.string a)=.returned (.string b):=by rw [str_val h]
theorem lineText_any (l:Ln) (w:World) (hn:l.s.length≤100000000) :
    Calls Tryz.prog 94 #[.agg #[.int .i64 l.c,.int .i64 l.t,.string ⟨l.s.toArray⟩]] w fun e w'=>e=.returned (.string ⟨(lineBytes l).toArray⟩)∧Below w.heap.size w w':=by
  obtain ⟨c,t,s⟩:=l
  dsimp only at hn ⊢
  have hconv:=conv3
  go_enter Tryz.func94,Tryz.ntmps94
  go_wp2
  go_ret
  refine ⟨ret_str ?_,((Below.refl _ _).alloc (Nat.le_refl _) _).alloc (by simp) _⟩
  rw [ByteArray.data_append,Array.toList_append]
  show [UInt8.ofNat (c % 256).toNat,UInt8.ofNat (t % 256).toNat,UInt8.ofNat (s.length % 256)]++s=lineBytes ⟨c,t,s⟩
  rw [← byteOf_nat];rfl
theorem linesText_any (a:Option Addr) (cap:Nat) (ls:List Ln) (w:World) (hl:LinesAt w a ls) (hn:ls.length≤100000000) (hs:∀ l ∈ ls,l.s.length≤8) :
    Calls Tryz.prog 95 #[sla a ls.length cap] w fun e w'=>e=.returned (.string ⟨(linesBytes ls).toArray⟩)∧Below w.heap.size w w':=by
  have HL:=hid hl
  have HS:=hid hs
  clear hl hs
  unfold sla
  have hconv:=conv1'
  go_enter Tryz.func95,Tryz.ntmps95
  go_wp2
  go_loopw [3,4] (fun v i wr=>∃ (k:Nat) (l:List UInt8),k≤ls.length∧i=.int .i64 k∧v=.string ⟨l.toArray⟩∧l.length≤1+11 * k∧Hid (l=byteOf ls.length :: manyBytes (ls.take k))∧Below w.heap.size w wr) (fun _ i _=>ls.length - (intOf i).toNat)
  case atStart=>exact ⟨0,[byteOf ls.length],Nat.zero_le _,rfl,by rw [byteOf_nat],by simp,rfl,(Below.refl _ _).alloc (Nat.le_refl _) _⟩
  case round =>
    obtain ⟨k,l,hk,rfl,rfl,hll,hv,hb⟩:=hrel
    have HB:=hid hb
    clear hb
    by_cases hlt:k < ls.length
    · have HLr:=hid (HL.out.below HB.out)
      obtain ⟨g,o,rfl,h0,h1,h2⟩:=HLr.out k hlt
      have hx8:=HS.out ls[k] (List.getElem_mem hlt)
      have HT:Hid (byteOf ls.length :: manyBytes (ls.take (k+1))=l++lineBytes ls[k]):=by
        show _=_
        rw [take_snoc ls k hlt,manyBytes_snoc,hv.out];rfl
      generalize hx:ls[k]=x at hx8 HT h0 h1 h2
      clear hx
      have hlb:=lineBytes_len x
      have hlb2:(lineBytes x).length≤11:=by omega
      clear hlb
      go_wp2_with fail
      refine (lineText_any x _ (by omega)).mono ?_
      rintro e w1 ⟨rfl,hb1⟩
      have HB1:=hid (HB.out.trans (hb1.mono HB.out.size))
      clear hb1
      go_wp2
      go_roundw
      case rel =>
        exact ⟨k+1,l++lineBytes x,by omega,by go_num,str_val (by simp),by simp;omega,HT.out.symm,HB1.out⟩
      case measure=>simp [intOf];omega
    · go_wp2
      go_ret
      have e:k=ls.length:=by omega
      subst e
      refine ⟨ret_str ?_,HB.out⟩
      have:=hv.out
      rw [List.take_length] at this
      simp [this,linesBytes]
theorem chkInt (l:List UInt8) (k:Nat) (h:k < l.length):((chk (l.take k):Int) * 31+(l[k].toNat:Int)) % 65536=(chk (l.take (k+1)):Int):=by
  rw [take_snoc l k h,chk_snoc];omega
theorem checked_any (l:List UInt8) (w:World) (hn:l.length≤100000000) :
    Calls Tryz.prog 96 #[.string ⟨l.toArray⟩] w fun e w'=>e=.returned (.string ⟨(withChk l).toArray⟩)∧Below w.heap.size w w':=by
  have hconv:=conv2
  go_enter Tryz.func96,Tryz.ntmps96
  go_wp2
  go_loop [3,4] (fun n i=>∃ (k c:Nat),k≤l.length∧i=.int .i64 k∧n=.int .i64 c∧c < 65536∧Hid (c=chk (l.take k))) (fun _ i=>l.length - (intOf i).toNat)
  case atStart=>exact ⟨0,7,Nat.zero_le _,rfl,rfl,by omega,rfl⟩
  case round =>
    obtain ⟨k,c,hk,rfl,rfl,hc,hv⟩:=hrel
    by_cases hlt:k < l.length
    · have HT:=hid (chkInt l k hlt)
      have hb:(l[k].toNat:Int) < 256:=by have:=l[k].toNat_lt;omega
      have hb0:(0:Int)≤(l[k].toNat:Int):=by omega
      go_wp2
      go_round
      case rel=>exact ⟨k+1,(c * 31+l[k].toNat) % 65536,by omega,by go_num,congrArg _ (chkStep c l[k].toNat hc l[k].toNat_lt),Nat.mod_lt _ (by omega),by show _=_;rw [take_snoc l k hlt,chk_snoc,← hv.out]⟩
      case measure=>simp [intOf];omega
    · go_wp2
      go_ret
      have e:k=l.length:=by omega
      subst e
      refine ⟨ret_str ?_,(Below.refl _ _).alloc (Nat.le_refl _) _⟩
      have hv:=hv.out
      rw [List.take_length] at hv
      subst hv
      rw [ByteArray.data_append,Array.toList_append]
      show l++_=withChk l
      unfold withChk
      rfl
end
end Go.Proofs.YtolififimldmlaaGreat
